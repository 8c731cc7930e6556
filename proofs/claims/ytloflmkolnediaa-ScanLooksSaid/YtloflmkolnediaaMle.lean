/- What the statements' walks use: Sc9, Sc10. -/

import Derived.Test.YtloflmkolnediaaMld
/- scan: the document's reader (gen9.py writes this). -/
namespace Go.Proofs.Ytloflmkolnediaa
set_option linter.unusedVariables false
set_option linter.unusedSimpArgs false
open Go.RowKit Go.Shelf
/-- The document's reader: its way and step (as the program's step), slots, slot, key, pointer, the one ahead; is it done, has it found; how many loads. -/
structure Dr where
  k : Nat
  slots : Nat
  slot : Int
  key : Nat
  ptr : Nat
  ahead : Nat
  dn : Bool
  is : Bool
  loads : Nat
def wayD (k : Nat) : Int := if k ≤ 4 then 1 else 2
def stepD (k : Nat) : Int := if k ≤ 4 then (k : Int) else (k : Int) - 5
def drA (d : Dr) : Value := .agg #[.int .i64 (wayD d.k), .int .i64 (d.slots : Int), .int .i64 d.slot, .int .i64 (stepD d.k), .int .u64 (d.key : Int), .int .u64 (d.ptr : Int), .int .u64 (d.ahead : Int), .bool d.dn, .bool d.is, .int .i64 (d.loads : Int)]
def goesD (d : Dr) : Dr := if d.k ≤ 4 then { d with k := 0, slot := d.slot + 1, dn := decide ((d.slots : Int) ≤ d.slot + 1) } else { d with k := 5, slot := d.slot - 1, dn := decide (d.slot - 1 < 0) }
def endD (d : Dr) (b : Bool) : Dr := if b = true ∧ d.ptr ≠ 0 ∧ d.ptr ≠ d.ahead then { d with dn := true, is := true } else if d.k ≤ 4 ∧ d.ptr = 0 then { d with dn := true } else goesD d
def gotD (d : Dr) (v : Nat) : Dr := match d.k with
  | 0 => if v = d.key then { d with k := 1 } else { d with k := 4 }
  | 1 => { d with ahead := v, k := 2 }
  | 2 => { d with ptr := v, k := 3 }
  | 3 => endD d (decide (v = d.key))
  | 4 => endD { d with ptr := v } false
  | 5 => if v = d.key then { d with k := 6 } else goesD d
  | 6 => if v = 0 then goesD { d with ptr := v, k := 7 } else { d with ptr := v, k := 7 }
  | 7 => { d with ahead := v, k := 8 }
  | _ => endD d (decide (v = d.key))
def giveD (d : Dr) (v : Nat) : Dr := gotD { d with loads := d.loads + 1 } v
set_option maxRecDepth 100000
set_option maxHeartbeats 8000000
theorem goes_upT  {slots slot key ptr ahead loads : Nat} {is : Bool} {st : Int} {w : World} (hs : slot < slots) (hS : slots ≤ 28) (h : slot + 1 = slots) : Calls Try.prog 42 #[.agg #[.int .i64 1, .int .i64 (slots : Int), .int .i64 (slot : Int), .int .i64 st, .int .u64 (key : Int), .int .u64 (ptr : Int), .int .u64 (ahead : Int), .bool false, .bool is, .int .i64 (loads : Int)]] w fun e w' => e = .returned (.agg #[.int .i64 1, .int .i64 (slots : Int), .int .i64 ((slot + 1 : Nat) : Int), .int .i64 0, .int .u64 (key : Int), .int .u64 (ptr : Int), .int .u64 (ahead : Int), .bool true, .bool is, .int .i64 (loads : Int)]) ∧ Below w.heap.size w w' := by
  have q := Below.refl w.heap.size w
  refine X.fn Try.func42 rfl (n := 26) rfl rfl ?_
  refine CC.seq ?_
  refine CC.region ?_
  refine LL.box [Value.int IntKind.i64 1, Value.int IntKind.i64 ↑slots, Value.int IntKind.i64 ↑slot, Value.int IntKind.i64 st, Value.int IntKind.u64 ↑key, Value.int IntKind.u64 ↑ptr, Value.int IntKind.u64 ↑ahead, Value.bool false, Value.bool is, Value.int IntKind.i64 ↑loads] rfl rfl rfl rfl rfl ?_
  intro W2 g3 eg3 r4 z5 b1
  replace q := q.trans (b1.mono q.size)
  have l6 := r4.lt
  refine LL.alloc ([Value.int IntKind.i64 0, Value.int IntKind.i64 0, Value.int IntKind.i64 0, Value.int IntKind.i64 0, Value.int IntKind.u64 0, Value.int IntKind.u64 0, Value.int IntKind.u64 0, Value.bool false, Value.bool false, Value.int IntKind.i64 0]) rfl rfl rfl rfl rfl ?_
  intro W8 g9 eg9 r10 z11 b7
  replace r4 := r4.up b7
  replace b1 := b1.trans (b7.mono b1.size)
  replace q := q.trans (b7.mono q.size)
  refine LL.nilS ?_
  refine CC.seq ?_
  refine CC.region ?_
  refine LL.val (R.field rfl rfl (I.fld rfl)) rfl rfl rfl ?_
  refine LL.store rfl rfl rfl rfl r4 (by exact Nat.le_of_ble_eq_true rfl) rfl rfl rfl rfl ?_
  intro W13 r14 b12 z15
  have hlb12 := r4.lt
  replace r14 : RowL W13 _ 33 [Value.int IntKind.i64 1, Value.int IntKind.i64 ↑slots, Value.int IntKind.i64 ↑slot, Value.int IntKind.i64 0, Value.int IntKind.u64 ↑key, Value.int IntKind.u64 ↑ptr, Value.int IntKind.u64 ↑ahead, Value.bool false, Value.bool is, Value.int IntKind.i64 ↑loads] := r14
  clear r4
  replace r10 := r10.gr b12 (by have := r10.lt; omega)
  replace b1 := b1.grown b12 b1.size (by rintro k ⟨⟩; omega)
  replace q := q.grown b12 q.size (by rintro k ⟨⟩; omega)
  have r4 := r14
  clear r14
  refine LL.nilS ?_
  refine CC.seq ?_
  refine CC.seq ?_
  refine CC.region ?_
  refine LL.val (R.field rfl rfl (I.fld rfl)) rfl rfl rfl ?_
  refine LL.val (R.load rfl rfl (I.ld1 rfl (RowL.cell r4 rfl))) rfl rfl rfl ?_
  refine LL.val (R.eqT rfl rfl rfl (by omega)) rfl rfl rfl ?_
  refine LL.nilS ?_
  refine CC.yes rfl ?_
  refine CC.seq ?_
  refine CC.region ?_
  refine LL.val (R.field rfl rfl (I.fld rfl)) rfl rfl rfl ?_
  refine LL.val (R.load rfl rfl (I.ld1 rfl (RowL.cell r4 rfl))) rfl rfl rfl ?_
  refine LL.val (R.addNc rfl rfl rfl rfl (by omega)) rfl rfl rfl ?_
  refine LL.val (R.field rfl rfl (I.fld rfl)) rfl rfl rfl ?_
  refine LL.store rfl rfl rfl rfl r4 (by exact Nat.le_of_ble_eq_true rfl) rfl rfl rfl rfl ?_
  intro W17 r18 b16 z19
  have hlb16 := r4.lt
  replace r18 : RowL W17 _ 33 [Value.int IntKind.i64 1, Value.int IntKind.i64 ↑slots, Value.int IntKind.i64 ↑(slot + 1), Value.int IntKind.i64 0, Value.int IntKind.u64 ↑key, Value.int IntKind.u64 ↑ptr, Value.int IntKind.u64 ↑ahead, Value.bool false, Value.bool is, Value.int IntKind.i64 ↑loads] := r18
  clear r4
  replace r10 := r10.gr b16 (by have := r10.lt; omega)
  replace b1 := b1.grown b16 b1.size (by rintro k ⟨⟩; omega)
  replace q := q.grown b16 q.size (by rintro k ⟨⟩; omega)
  have r4 := r18
  clear r18
  refine LL.nilS ?_
  refine CC.region ?_
  refine LL.val (R.field rfl rfl (I.fld rfl)) rfl rfl rfl ?_
  refine LL.val (R.load rfl rfl (I.ld1 rfl (RowL.cell r4 rfl))) rfl rfl rfl ?_
  refine LL.val (R.field rfl rfl (I.fld rfl)) rfl rfl rfl ?_
  refine LL.val (R.load rfl rfl (I.ld1 rfl (RowL.cell r4 rfl))) rfl rfl rfl ?_
  refine LL.val (R.geT rfl rfl rfl (by omega)) rfl rfl rfl ?_
  refine LL.val (R.field rfl rfl (I.fld rfl)) rfl rfl rfl ?_
  refine LL.store rfl rfl rfl rfl r4 (by exact Nat.le_of_ble_eq_true rfl) rfl rfl rfl rfl ?_
  intro W21 r22 b20 z23
  have hlb20 := r4.lt
  replace r22 : RowL W21 _ 33 [Value.int IntKind.i64 1, Value.int IntKind.i64 ↑slots, Value.int IntKind.i64 ↑(slot + 1), Value.int IntKind.i64 0, Value.int IntKind.u64 ↑key, Value.int IntKind.u64 ↑ptr, Value.int IntKind.u64 ↑ahead, Value.bool true, Value.bool is, Value.int IntKind.i64 ↑loads] := r22
  clear r4
  replace r10 := r10.gr b20 (by have := r10.lt; omega)
  replace b1 := b1.grown b20 b1.size (by rintro k ⟨⟩; omega)
  replace q := q.grown b20 q.size (by rintro k ⟨⟩; omega)
  have r4 := r22
  clear r22
  refine LL.nilS ?_
  refine CC.seq ?_
  refine CC.region ?_
  refine LL.val (R.load rfl rfl (I.ldNc (vs := [Value.int IntKind.i64 1, Value.int IntKind.i64 ↑slots, Value.int IntKind.i64 ↑(slot + 1), Value.int IntKind.i64 0, Value.int IntKind.u64 ↑key, Value.int IntKind.u64 ↑ptr, Value.int IntKind.u64 ↑ahead, Value.bool true, Value.bool is, Value.int IntKind.i64 ↑loads]) (RowL.cells r4 rfl) (by rfl) (by rfl))) rfl rfl rfl ?_
  refine LL.storeN (vs := [Value.int IntKind.i64 1, Value.int IntKind.i64 ↑slots, Value.int IntKind.i64 ↑(slot + 1), Value.int IntKind.i64 0, Value.int IntKind.u64 ↑key, Value.int IntKind.u64 ↑ptr, Value.int IntKind.u64 ↑ahead, Value.bool true, Value.bool is, Value.int IntKind.i64 ↑loads]) rfl rfl rfl rfl r10 (by exact Nat.le_of_ble_eq_true rfl) (ones_of rfl) rfl rfl ?_
  intro W25 r26 b24 z27
  have hlb24 := r10.lt
  replace r26 : RowL W25 _ 33 [Value.int IntKind.i64 1, Value.int IntKind.i64 ↑slots, Value.int IntKind.i64 ↑(slot + 1), Value.int IntKind.i64 0, Value.int IntKind.u64 ↑key, Value.int IntKind.u64 ↑ptr, Value.int IntKind.u64 ↑ahead, Value.bool true, Value.bool is, Value.int IntKind.i64 ↑loads] := r26
  clear r10
  replace b1 := b1.grown b24 b1.size (by rintro k ⟨⟩; omega)
  replace q := q.grown b24 q.size (by rintro k ⟨⟩; omega)
  replace r4 := r4.gr b24 (by have := r4.lt; omega)
  have r10 := r26
  clear r26
  refine LL.nilS ?_
  refine CC.ret ?_
  refine EE.retC rfl rfl (lvNc (RowL.cells0 (by assumption)) (by rfl) (by rfl)) ?_
  exact ⟨rfl, q⟩
theorem goes_upF  {slots slot key ptr ahead loads : Nat} {is : Bool} {st : Int} {w : World} (hs : slot < slots) (hS : slots ≤ 28) (h : slot + 1 < slots) : Calls Try.prog 42 #[.agg #[.int .i64 1, .int .i64 (slots : Int), .int .i64 (slot : Int), .int .i64 st, .int .u64 (key : Int), .int .u64 (ptr : Int), .int .u64 (ahead : Int), .bool false, .bool is, .int .i64 (loads : Int)]] w fun e w' => e = .returned (.agg #[.int .i64 1, .int .i64 (slots : Int), .int .i64 ((slot + 1 : Nat) : Int), .int .i64 0, .int .u64 (key : Int), .int .u64 (ptr : Int), .int .u64 (ahead : Int), .bool false, .bool is, .int .i64 (loads : Int)]) ∧ Below w.heap.size w w' := by
  have q := Below.refl w.heap.size w
  refine X.fn Try.func42 rfl (n := 26) rfl rfl ?_
  refine CC.seq ?_
  refine CC.region ?_
  refine LL.box [Value.int IntKind.i64 1, Value.int IntKind.i64 ↑slots, Value.int IntKind.i64 ↑slot, Value.int IntKind.i64 st, Value.int IntKind.u64 ↑key, Value.int IntKind.u64 ↑ptr, Value.int IntKind.u64 ↑ahead, Value.bool false, Value.bool is, Value.int IntKind.i64 ↑loads] rfl rfl rfl rfl rfl ?_
  intro W2 g3 eg3 r4 z5 b1
  replace q := q.trans (b1.mono q.size)
  have l6 := r4.lt
  refine LL.alloc ([Value.int IntKind.i64 0, Value.int IntKind.i64 0, Value.int IntKind.i64 0, Value.int IntKind.i64 0, Value.int IntKind.u64 0, Value.int IntKind.u64 0, Value.int IntKind.u64 0, Value.bool false, Value.bool false, Value.int IntKind.i64 0]) rfl rfl rfl rfl rfl ?_
  intro W8 g9 eg9 r10 z11 b7
  replace r4 := r4.up b7
  replace b1 := b1.trans (b7.mono b1.size)
  replace q := q.trans (b7.mono q.size)
  refine LL.nilS ?_
  refine CC.seq ?_
  refine CC.region ?_
  refine LL.val (R.field rfl rfl (I.fld rfl)) rfl rfl rfl ?_
  refine LL.store rfl rfl rfl rfl r4 (by exact Nat.le_of_ble_eq_true rfl) rfl rfl rfl rfl ?_
  intro W13 r14 b12 z15
  have hlb12 := r4.lt
  replace r14 : RowL W13 _ 33 [Value.int IntKind.i64 1, Value.int IntKind.i64 ↑slots, Value.int IntKind.i64 ↑slot, Value.int IntKind.i64 0, Value.int IntKind.u64 ↑key, Value.int IntKind.u64 ↑ptr, Value.int IntKind.u64 ↑ahead, Value.bool false, Value.bool is, Value.int IntKind.i64 ↑loads] := r14
  clear r4
  replace r10 := r10.gr b12 (by have := r10.lt; omega)
  replace b1 := b1.grown b12 b1.size (by rintro k ⟨⟩; omega)
  replace q := q.grown b12 q.size (by rintro k ⟨⟩; omega)
  have r4 := r14
  clear r14
  refine LL.nilS ?_
  refine CC.seq ?_
  refine CC.seq ?_
  refine CC.region ?_
  refine LL.val (R.field rfl rfl (I.fld rfl)) rfl rfl rfl ?_
  refine LL.val (R.load rfl rfl (I.ld1 rfl (RowL.cell r4 rfl))) rfl rfl rfl ?_
  refine LL.val (R.eqT rfl rfl rfl (by omega)) rfl rfl rfl ?_
  refine LL.nilS ?_
  refine CC.yes rfl ?_
  refine CC.seq ?_
  refine CC.region ?_
  refine LL.val (R.field rfl rfl (I.fld rfl)) rfl rfl rfl ?_
  refine LL.val (R.load rfl rfl (I.ld1 rfl (RowL.cell r4 rfl))) rfl rfl rfl ?_
  refine LL.val (R.addNc rfl rfl rfl rfl (by omega)) rfl rfl rfl ?_
  refine LL.val (R.field rfl rfl (I.fld rfl)) rfl rfl rfl ?_
  refine LL.store rfl rfl rfl rfl r4 (by exact Nat.le_of_ble_eq_true rfl) rfl rfl rfl rfl ?_
  intro W17 r18 b16 z19
  have hlb16 := r4.lt
  replace r18 : RowL W17 _ 33 [Value.int IntKind.i64 1, Value.int IntKind.i64 ↑slots, Value.int IntKind.i64 ↑(slot + 1), Value.int IntKind.i64 0, Value.int IntKind.u64 ↑key, Value.int IntKind.u64 ↑ptr, Value.int IntKind.u64 ↑ahead, Value.bool false, Value.bool is, Value.int IntKind.i64 ↑loads] := r18
  clear r4
  replace r10 := r10.gr b16 (by have := r10.lt; omega)
  replace b1 := b1.grown b16 b1.size (by rintro k ⟨⟩; omega)
  replace q := q.grown b16 q.size (by rintro k ⟨⟩; omega)
  have r4 := r18
  clear r18
  refine LL.nilS ?_
  refine CC.region ?_
  refine LL.val (R.field rfl rfl (I.fld rfl)) rfl rfl rfl ?_
  refine LL.val (R.load rfl rfl (I.ld1 rfl (RowL.cell r4 rfl))) rfl rfl rfl ?_
  refine LL.val (R.field rfl rfl (I.fld rfl)) rfl rfl rfl ?_
  refine LL.val (R.load rfl rfl (I.ld1 rfl (RowL.cell r4 rfl))) rfl rfl rfl ?_
  refine LL.val (R.geF rfl rfl rfl (by omega)) rfl rfl rfl ?_
  refine LL.val (R.field rfl rfl (I.fld rfl)) rfl rfl rfl ?_
  refine LL.store rfl rfl rfl rfl r4 (by exact Nat.le_of_ble_eq_true rfl) rfl rfl rfl rfl ?_
  intro W21 r22 b20 z23
  have hlb20 := r4.lt
  replace r22 : RowL W21 _ 33 [Value.int IntKind.i64 1, Value.int IntKind.i64 ↑slots, Value.int IntKind.i64 ↑(slot + 1), Value.int IntKind.i64 0, Value.int IntKind.u64 ↑key, Value.int IntKind.u64 ↑ptr, Value.int IntKind.u64 ↑ahead, Value.bool false, Value.bool is, Value.int IntKind.i64 ↑loads] := r22
  clear r4
  replace r10 := r10.gr b20 (by have := r10.lt; omega)
  replace b1 := b1.grown b20 b1.size (by rintro k ⟨⟩; omega)
  replace q := q.grown b20 q.size (by rintro k ⟨⟩; omega)
  have r4 := r22
  clear r22
  refine LL.nilS ?_
  refine CC.seq ?_
  refine CC.region ?_
  refine LL.val (R.load rfl rfl (I.ldNc (vs := [Value.int IntKind.i64 1, Value.int IntKind.i64 ↑slots, Value.int IntKind.i64 ↑(slot + 1), Value.int IntKind.i64 0, Value.int IntKind.u64 ↑key, Value.int IntKind.u64 ↑ptr, Value.int IntKind.u64 ↑ahead, Value.bool false, Value.bool is, Value.int IntKind.i64 ↑loads]) (RowL.cells r4 rfl) (by rfl) (by rfl))) rfl rfl rfl ?_
  refine LL.storeN (vs := [Value.int IntKind.i64 1, Value.int IntKind.i64 ↑slots, Value.int IntKind.i64 ↑(slot + 1), Value.int IntKind.i64 0, Value.int IntKind.u64 ↑key, Value.int IntKind.u64 ↑ptr, Value.int IntKind.u64 ↑ahead, Value.bool false, Value.bool is, Value.int IntKind.i64 ↑loads]) rfl rfl rfl rfl r10 (by exact Nat.le_of_ble_eq_true rfl) (ones_of rfl) rfl rfl ?_
  intro W25 r26 b24 z27
  have hlb24 := r10.lt
  replace r26 : RowL W25 _ 33 [Value.int IntKind.i64 1, Value.int IntKind.i64 ↑slots, Value.int IntKind.i64 ↑(slot + 1), Value.int IntKind.i64 0, Value.int IntKind.u64 ↑key, Value.int IntKind.u64 ↑ptr, Value.int IntKind.u64 ↑ahead, Value.bool false, Value.bool is, Value.int IntKind.i64 ↑loads] := r26
  clear r10
  replace b1 := b1.grown b24 b1.size (by rintro k ⟨⟩; omega)
  replace q := q.grown b24 q.size (by rintro k ⟨⟩; omega)
  replace r4 := r4.gr b24 (by have := r4.lt; omega)
  have r10 := r26
  clear r26
  refine LL.nilS ?_
  refine CC.ret ?_
  refine EE.retC rfl rfl (lvNc (RowL.cells0 (by assumption)) (by rfl) (by rfl)) ?_
  exact ⟨rfl, q⟩
theorem goes_dnT  {slots slot key ptr ahead loads : Nat} {is : Bool} {st : Int} {w : World} (hs : slot < slots) (hS : slots ≤ 28) (h : slot = 0) : Calls Try.prog 42 #[.agg #[.int .i64 2, .int .i64 (slots : Int), .int .i64 (slot : Int), .int .i64 st, .int .u64 (key : Int), .int .u64 (ptr : Int), .int .u64 (ahead : Int), .bool false, .bool is, .int .i64 (loads : Int)]] w fun e w' => e = .returned (.agg #[.int .i64 2, .int .i64 (slots : Int), .int .i64 (-1), .int .i64 0, .int .u64 (key : Int), .int .u64 (ptr : Int), .int .u64 (ahead : Int), .bool true, .bool is, .int .i64 (loads : Int)]) ∧ Below w.heap.size w w' := by
  have q := Below.refl w.heap.size w
  subst h
  refine X.fn Try.func42 rfl (n := 26) rfl rfl ?_
  refine CC.seq ?_
  refine CC.region ?_
  refine LL.box [Value.int IntKind.i64 2, Value.int IntKind.i64 ↑slots, Value.int IntKind.i64 ↑0, Value.int IntKind.i64 st, Value.int IntKind.u64 ↑key, Value.int IntKind.u64 ↑ptr, Value.int IntKind.u64 ↑ahead, Value.bool false, Value.bool is, Value.int IntKind.i64 ↑loads] rfl rfl rfl rfl rfl ?_
  intro W2 g3 eg3 r4 z5 b1
  replace q := q.trans (b1.mono q.size)
  have l6 := r4.lt
  refine LL.alloc ([Value.int IntKind.i64 0, Value.int IntKind.i64 0, Value.int IntKind.i64 0, Value.int IntKind.i64 0, Value.int IntKind.u64 0, Value.int IntKind.u64 0, Value.int IntKind.u64 0, Value.bool false, Value.bool false, Value.int IntKind.i64 0]) rfl rfl rfl rfl rfl ?_
  intro W8 g9 eg9 r10 z11 b7
  replace r4 := r4.up b7
  replace b1 := b1.trans (b7.mono b1.size)
  replace q := q.trans (b7.mono q.size)
  refine LL.nilS ?_
  refine CC.seq ?_
  refine CC.region ?_
  refine LL.val (R.field rfl rfl (I.fld rfl)) rfl rfl rfl ?_
  refine LL.store rfl rfl rfl rfl r4 (by exact Nat.le_of_ble_eq_true rfl) rfl rfl rfl rfl ?_
  intro W13 r14 b12 z15
  have hlb12 := r4.lt
  replace r14 : RowL W13 _ 33 [Value.int IntKind.i64 2, Value.int IntKind.i64 ↑slots, Value.int IntKind.i64 0, Value.int IntKind.i64 0, Value.int IntKind.u64 ↑key, Value.int IntKind.u64 ↑ptr, Value.int IntKind.u64 ↑ahead, Value.bool false, Value.bool is, Value.int IntKind.i64 ↑loads] := r14
  clear r4
  replace r10 := r10.gr b12 (by have := r10.lt; omega)
  replace b1 := b1.grown b12 b1.size (by rintro k ⟨⟩; omega)
  replace q := q.grown b12 q.size (by rintro k ⟨⟩; omega)
  have r4 := r14
  clear r14
  refine LL.nilS ?_
  refine CC.seq ?_
  refine CC.seq ?_
  refine CC.region ?_
  refine LL.val (R.field rfl rfl (I.fld rfl)) rfl rfl rfl ?_
  refine LL.val (R.load rfl rfl (I.ld1 rfl (RowL.cell r4 rfl))) rfl rfl rfl ?_
  refine LL.val (R.eqF rfl rfl rfl (by omega)) rfl rfl rfl ?_
  refine LL.nilS ?_
  refine CC.no rfl ?_
  refine CC.seq ?_
  refine CC.region ?_
  refine LL.val (R.field rfl rfl (I.fld rfl)) rfl rfl rfl ?_
  refine LL.val (R.load rfl rfl (I.ld1 rfl (RowL.cell r4 rfl))) rfl rfl rfl ?_
  refine LL.val (R.subIz (z := -1) rfl rfl rfl (by decide) (by decide)) rfl rfl rfl ?_
  refine LL.val (R.field rfl rfl (I.fld rfl)) rfl rfl rfl ?_
  refine LL.store rfl rfl rfl rfl r4 (by exact Nat.le_of_ble_eq_true rfl) rfl rfl rfl rfl ?_
  intro W17 r18 b16 z19
  have hlb16 := r4.lt
  replace r18 : RowL W17 _ 33 [Value.int IntKind.i64 2, Value.int IntKind.i64 ↑slots, Value.int IntKind.i64 (-1), Value.int IntKind.i64 0, Value.int IntKind.u64 ↑key, Value.int IntKind.u64 ↑ptr, Value.int IntKind.u64 ↑ahead, Value.bool false, Value.bool is, Value.int IntKind.i64 ↑loads] := r18
  clear r4
  replace r10 := r10.gr b16 (by have := r10.lt; omega)
  replace b1 := b1.grown b16 b1.size (by rintro k ⟨⟩; omega)
  replace q := q.grown b16 q.size (by rintro k ⟨⟩; omega)
  have r4 := r18
  clear r18
  refine LL.nilS ?_
  refine CC.region ?_
  refine LL.val (R.field rfl rfl (I.fld rfl)) rfl rfl rfl ?_
  refine LL.val (R.load rfl rfl (I.ld1 rfl (RowL.cell r4 rfl))) rfl rfl rfl ?_
  refine LL.val (R.ltT rfl rfl rfl (by omega)) rfl rfl rfl ?_
  refine LL.val (R.field rfl rfl (I.fld rfl)) rfl rfl rfl ?_
  refine LL.store rfl rfl rfl rfl r4 (by exact Nat.le_of_ble_eq_true rfl) rfl rfl rfl rfl ?_
  intro W21 r22 b20 z23
  have hlb20 := r4.lt
  replace r22 : RowL W21 _ 33 [Value.int IntKind.i64 2, Value.int IntKind.i64 ↑slots, Value.int IntKind.i64 (-1), Value.int IntKind.i64 0, Value.int IntKind.u64 ↑key, Value.int IntKind.u64 ↑ptr, Value.int IntKind.u64 ↑ahead, Value.bool true, Value.bool is, Value.int IntKind.i64 ↑loads] := r22
  clear r4
  replace r10 := r10.gr b20 (by have := r10.lt; omega)
  replace b1 := b1.grown b20 b1.size (by rintro k ⟨⟩; omega)
  replace q := q.grown b20 q.size (by rintro k ⟨⟩; omega)
  have r4 := r22
  clear r22
  refine LL.nilS ?_
  refine CC.seq ?_
  refine CC.region ?_
  refine LL.val (R.load rfl rfl (I.ldNc (vs := [Value.int IntKind.i64 2, Value.int IntKind.i64 ↑slots, Value.int IntKind.i64 (-1), Value.int IntKind.i64 0, Value.int IntKind.u64 ↑key, Value.int IntKind.u64 ↑ptr, Value.int IntKind.u64 ↑ahead, Value.bool true, Value.bool is, Value.int IntKind.i64 ↑loads]) (RowL.cells r4 rfl) (by rfl) (by rfl))) rfl rfl rfl ?_
  refine LL.storeN (vs := [Value.int IntKind.i64 2, Value.int IntKind.i64 ↑slots, Value.int IntKind.i64 (-1), Value.int IntKind.i64 0, Value.int IntKind.u64 ↑key, Value.int IntKind.u64 ↑ptr, Value.int IntKind.u64 ↑ahead, Value.bool true, Value.bool is, Value.int IntKind.i64 ↑loads]) rfl rfl rfl rfl r10 (by exact Nat.le_of_ble_eq_true rfl) (ones_of rfl) rfl rfl ?_
  intro W25 r26 b24 z27
  have hlb24 := r10.lt
  replace r26 : RowL W25 _ 33 [Value.int IntKind.i64 2, Value.int IntKind.i64 ↑slots, Value.int IntKind.i64 (-1), Value.int IntKind.i64 0, Value.int IntKind.u64 ↑key, Value.int IntKind.u64 ↑ptr, Value.int IntKind.u64 ↑ahead, Value.bool true, Value.bool is, Value.int IntKind.i64 ↑loads] := r26
  clear r10
  replace b1 := b1.grown b24 b1.size (by rintro k ⟨⟩; omega)
  replace q := q.grown b24 q.size (by rintro k ⟨⟩; omega)
  replace r4 := r4.gr b24 (by have := r4.lt; omega)
  have r10 := r26
  clear r26
  refine LL.nilS ?_
  refine CC.ret ?_
  refine EE.retC rfl rfl (lvNc (RowL.cells0 (by assumption)) (by rfl) (by rfl)) ?_
  exact ⟨rfl, q⟩
theorem goes_dnF  {slots slot key ptr ahead loads : Nat} {is : Bool} {st : Int} {w : World} (hs : slot < slots) (hS : slots ≤ 28) (h : 0 < slot) : Calls Try.prog 42 #[.agg #[.int .i64 2, .int .i64 (slots : Int), .int .i64 (slot : Int), .int .i64 st, .int .u64 (key : Int), .int .u64 (ptr : Int), .int .u64 (ahead : Int), .bool false, .bool is, .int .i64 (loads : Int)]] w fun e w' => e = .returned (.agg #[.int .i64 2, .int .i64 (slots : Int), .int .i64 ((slot - 1 : Nat) : Int), .int .i64 0, .int .u64 (key : Int), .int .u64 (ptr : Int), .int .u64 (ahead : Int), .bool false, .bool is, .int .i64 (loads : Int)]) ∧ Below w.heap.size w w' := by
  have q := Below.refl w.heap.size w
  refine X.fn Try.func42 rfl (n := 26) rfl rfl ?_
  refine CC.seq ?_
  refine CC.region ?_
  refine LL.box [Value.int IntKind.i64 2, Value.int IntKind.i64 ↑slots, Value.int IntKind.i64 ↑slot, Value.int IntKind.i64 st, Value.int IntKind.u64 ↑key, Value.int IntKind.u64 ↑ptr, Value.int IntKind.u64 ↑ahead, Value.bool false, Value.bool is, Value.int IntKind.i64 ↑loads] rfl rfl rfl rfl rfl ?_
  intro W2 g3 eg3 r4 z5 b1
  replace q := q.trans (b1.mono q.size)
  have l6 := r4.lt
  refine LL.alloc ([Value.int IntKind.i64 0, Value.int IntKind.i64 0, Value.int IntKind.i64 0, Value.int IntKind.i64 0, Value.int IntKind.u64 0, Value.int IntKind.u64 0, Value.int IntKind.u64 0, Value.bool false, Value.bool false, Value.int IntKind.i64 0]) rfl rfl rfl rfl rfl ?_
  intro W8 g9 eg9 r10 z11 b7
  replace r4 := r4.up b7
  replace b1 := b1.trans (b7.mono b1.size)
  replace q := q.trans (b7.mono q.size)
  refine LL.nilS ?_
  refine CC.seq ?_
  refine CC.region ?_
  refine LL.val (R.field rfl rfl (I.fld rfl)) rfl rfl rfl ?_
  refine LL.store rfl rfl rfl rfl r4 (by exact Nat.le_of_ble_eq_true rfl) rfl rfl rfl rfl ?_
  intro W13 r14 b12 z15
  have hlb12 := r4.lt
  replace r14 : RowL W13 _ 33 [Value.int IntKind.i64 2, Value.int IntKind.i64 ↑slots, Value.int IntKind.i64 ↑slot, Value.int IntKind.i64 0, Value.int IntKind.u64 ↑key, Value.int IntKind.u64 ↑ptr, Value.int IntKind.u64 ↑ahead, Value.bool false, Value.bool is, Value.int IntKind.i64 ↑loads] := r14
  clear r4
  replace r10 := r10.gr b12 (by have := r10.lt; omega)
  replace b1 := b1.grown b12 b1.size (by rintro k ⟨⟩; omega)
  replace q := q.grown b12 q.size (by rintro k ⟨⟩; omega)
  have r4 := r14
  clear r14
  refine LL.nilS ?_
  refine CC.seq ?_
  refine CC.seq ?_
  refine CC.region ?_
  refine LL.val (R.field rfl rfl (I.fld rfl)) rfl rfl rfl ?_
  refine LL.val (R.load rfl rfl (I.ld1 rfl (RowL.cell r4 rfl))) rfl rfl rfl ?_
  refine LL.val (R.eqF rfl rfl rfl (by omega)) rfl rfl rfl ?_
  refine LL.nilS ?_
  refine CC.no rfl ?_
  refine CC.seq ?_
  refine CC.region ?_
  refine LL.val (R.field rfl rfl (I.fld rfl)) rfl rfl rfl ?_
  refine LL.val (R.load rfl rfl (I.ld1 rfl (RowL.cell r4 rfl))) rfl rfl rfl ?_
  refine LL.val (R.subNc rfl rfl rfl rfl (by omega) (by omega)) rfl rfl rfl ?_
  refine LL.val (R.field rfl rfl (I.fld rfl)) rfl rfl rfl ?_
  refine LL.store rfl rfl rfl rfl r4 (by exact Nat.le_of_ble_eq_true rfl) rfl rfl rfl rfl ?_
  intro W17 r18 b16 z19
  have hlb16 := r4.lt
  replace r18 : RowL W17 _ 33 [Value.int IntKind.i64 2, Value.int IntKind.i64 ↑slots, Value.int IntKind.i64 ↑(slot - 1), Value.int IntKind.i64 0, Value.int IntKind.u64 ↑key, Value.int IntKind.u64 ↑ptr, Value.int IntKind.u64 ↑ahead, Value.bool false, Value.bool is, Value.int IntKind.i64 ↑loads] := r18
  clear r4
  replace r10 := r10.gr b16 (by have := r10.lt; omega)
  replace b1 := b1.grown b16 b1.size (by rintro k ⟨⟩; omega)
  replace q := q.grown b16 q.size (by rintro k ⟨⟩; omega)
  have r4 := r18
  clear r18
  refine LL.nilS ?_
  refine CC.region ?_
  refine LL.val (R.field rfl rfl (I.fld rfl)) rfl rfl rfl ?_
  refine LL.val (R.load rfl rfl (I.ld1 rfl (RowL.cell r4 rfl))) rfl rfl rfl ?_
  refine LL.val (R.ltF rfl rfl rfl (by omega)) rfl rfl rfl ?_
  refine LL.val (R.field rfl rfl (I.fld rfl)) rfl rfl rfl ?_
  refine LL.store rfl rfl rfl rfl r4 (by exact Nat.le_of_ble_eq_true rfl) rfl rfl rfl rfl ?_
  intro W21 r22 b20 z23
  have hlb20 := r4.lt
  replace r22 : RowL W21 _ 33 [Value.int IntKind.i64 2, Value.int IntKind.i64 ↑slots, Value.int IntKind.i64 ↑(slot - 1), Value.int IntKind.i64 0, Value.int IntKind.u64 ↑key, Value.int IntKind.u64 ↑ptr, Value.int IntKind.u64 ↑ahead, Value.bool false, Value.bool is, Value.int IntKind.i64 ↑loads] := r22
  clear r4
  replace r10 := r10.gr b20 (by have := r10.lt; omega)
  replace b1 := b1.grown b20 b1.size (by rintro k ⟨⟩; omega)
  replace q := q.grown b20 q.size (by rintro k ⟨⟩; omega)
  have r4 := r22
  clear r22
  refine LL.nilS ?_
  refine CC.seq ?_
  refine CC.region ?_
  refine LL.val (R.load rfl rfl (I.ldNc (vs := [Value.int IntKind.i64 2, Value.int IntKind.i64 ↑slots, Value.int IntKind.i64 ↑(slot - 1), Value.int IntKind.i64 0, Value.int IntKind.u64 ↑key, Value.int IntKind.u64 ↑ptr, Value.int IntKind.u64 ↑ahead, Value.bool false, Value.bool is, Value.int IntKind.i64 ↑loads]) (RowL.cells r4 rfl) (by rfl) (by rfl))) rfl rfl rfl ?_
  refine LL.storeN (vs := [Value.int IntKind.i64 2, Value.int IntKind.i64 ↑slots, Value.int IntKind.i64 ↑(slot - 1), Value.int IntKind.i64 0, Value.int IntKind.u64 ↑key, Value.int IntKind.u64 ↑ptr, Value.int IntKind.u64 ↑ahead, Value.bool false, Value.bool is, Value.int IntKind.i64 ↑loads]) rfl rfl rfl rfl r10 (by exact Nat.le_of_ble_eq_true rfl) (ones_of rfl) rfl rfl ?_
  intro W25 r26 b24 z27
  have hlb24 := r10.lt
  replace r26 : RowL W25 _ 33 [Value.int IntKind.i64 2, Value.int IntKind.i64 ↑slots, Value.int IntKind.i64 ↑(slot - 1), Value.int IntKind.i64 0, Value.int IntKind.u64 ↑key, Value.int IntKind.u64 ↑ptr, Value.int IntKind.u64 ↑ahead, Value.bool false, Value.bool is, Value.int IntKind.i64 ↑loads] := r26
  clear r10
  replace b1 := b1.grown b24 b1.size (by rintro k ⟨⟩; omega)
  replace q := q.grown b24 q.size (by rintro k ⟨⟩; omega)
  replace r4 := r4.gr b24 (by have := r4.lt; omega)
  have r10 := r26
  clear r26
  refine LL.nilS ?_
  refine CC.ret ?_
  refine EE.retC rfl rfl (lvNc (RowL.cells0 (by assumption)) (by rfl) (by rfl)) ?_
  exact ⟨rfl, q⟩
theorem ended_F1  {slots slot key ptr ahead loads : Nat} {is : Bool} {st : Int} {w : World} (hs : slot < slots) (hS : slots ≤ 28) (h1 : ptr ≠ 0) (h2 : ptr ≠ ahead) : Calls Try.prog 41 #[.agg #[.int .i64 1, .int .i64 (slots : Int), .int .i64 (slot : Int), .int .i64 st, .int .u64 (key : Int), .int .u64 (ptr : Int), .int .u64 (ahead : Int), .bool false, .bool is, .int .i64 (loads : Int)], .bool true] w fun e w' => e = .returned (.agg #[.int .i64 1, .int .i64 (slots : Int), .int .i64 (slot : Int), .int .i64 st, .int .u64 (key : Int), .int .u64 (ptr : Int), .int .u64 (ahead : Int), .bool true, .bool true, .int .i64 (loads : Int)]) ∧ Below w.heap.size w w' := by
  have q := Below.refl w.heap.size w
  refine X.fn Try.func41 rfl (n := 33) rfl rfl ?_
  refine CC.seq ?_
  refine CC.region ?_
  refine LL.box [Value.int IntKind.i64 1, Value.int IntKind.i64 ↑slots, Value.int IntKind.i64 ↑slot, Value.int IntKind.i64 st, Value.int IntKind.u64 ↑key, Value.int IntKind.u64 ↑ptr, Value.int IntKind.u64 ↑ahead, Value.bool false, Value.bool is, Value.int IntKind.i64 ↑loads] rfl rfl rfl rfl rfl ?_
  intro W2 g3 eg3 r4 z5 b1
  replace q := q.trans (b1.mono q.size)
  have l6 := r4.lt
  refine LL.alloc ([Value.int IntKind.i64 0, Value.int IntKind.i64 0, Value.int IntKind.i64 0, Value.int IntKind.i64 0, Value.int IntKind.u64 0, Value.int IntKind.u64 0, Value.int IntKind.u64 0, Value.bool false, Value.bool false, Value.int IntKind.i64 0]) rfl rfl rfl rfl rfl ?_
  intro W8 g9 eg9 r10 z11 b7
  replace r4 := r4.up b7
  replace b1 := b1.trans (b7.mono b1.size)
  replace q := q.trans (b7.mono q.size)
  refine LL.nilS ?_
  refine CC.seq ?_
  refine CC.seq ?_
  refine CC.region ?_
  refine LL.val (R.move rfl rfl) rfl rfl rfl ?_
  refine LL.val (R.move rfl rfl) rfl rfl rfl ?_
  refine LL.val (R.field rfl rfl (I.fld rfl)) rfl rfl rfl ?_
  refine LL.val (R.load rfl rfl (I.ld1 rfl (RowL.cell r4 rfl))) rfl rfl rfl ?_
  refine LL.val (R.neT rfl rfl rfl (by omega)) rfl rfl rfl ?_
  refine LL.val (R.pick rfl rfl rfl) rfl rfl rfl ?_
  refine LL.val (R.move rfl rfl) rfl rfl rfl ?_
  refine LL.val (R.field rfl rfl (I.fld rfl)) rfl rfl rfl ?_
  refine LL.val (R.load rfl rfl (I.ld1 rfl (RowL.cell r4 rfl))) rfl rfl rfl ?_
  refine LL.val (R.field rfl rfl (I.fld rfl)) rfl rfl rfl ?_
  refine LL.val (R.load rfl rfl (I.ld1 rfl (RowL.cell r4 rfl))) rfl rfl rfl ?_
  refine LL.val (R.neT rfl rfl rfl (by omega)) rfl rfl rfl ?_
  refine LL.val (R.pick rfl rfl rfl) rfl rfl rfl ?_
  refine LL.nilS ?_
  refine CC.yes rfl ?_
  refine CC.seq ?_
  refine CC.region ?_
  refine LL.val (R.field rfl rfl (I.fld rfl)) rfl rfl rfl ?_
  refine LL.store rfl rfl rfl rfl r4 (by exact Nat.le_of_ble_eq_true rfl) rfl rfl rfl rfl ?_
  intro W13 r14 b12 z15
  have hlb12 := r4.lt
  replace r14 : RowL W13 _ 33 [Value.int IntKind.i64 1, Value.int IntKind.i64 ↑slots, Value.int IntKind.i64 ↑slot, Value.int IntKind.i64 st, Value.int IntKind.u64 ↑key, Value.int IntKind.u64 ↑ptr, Value.int IntKind.u64 ↑ahead, Value.bool true, Value.bool is, Value.int IntKind.i64 ↑loads] := r14
  clear r4
  replace r10 := r10.gr b12 (by have := r10.lt; omega)
  replace b1 := b1.grown b12 b1.size (by rintro k ⟨⟩; omega)
  replace q := q.grown b12 q.size (by rintro k ⟨⟩; omega)
  have r4 := r14
  clear r14
  refine LL.val (R.field rfl rfl (I.fld rfl)) rfl rfl rfl ?_
  refine LL.store rfl rfl rfl rfl r4 (by exact Nat.le_of_ble_eq_true rfl) rfl rfl rfl rfl ?_
  intro W17 r18 b16 z19
  have hlb16 := r4.lt
  replace r18 : RowL W17 _ 33 [Value.int IntKind.i64 1, Value.int IntKind.i64 ↑slots, Value.int IntKind.i64 ↑slot, Value.int IntKind.i64 st, Value.int IntKind.u64 ↑key, Value.int IntKind.u64 ↑ptr, Value.int IntKind.u64 ↑ahead, Value.bool true, Value.bool true, Value.int IntKind.i64 ↑loads] := r18
  clear r4
  replace r10 := r10.gr b16 (by have := r10.lt; omega)
  replace b1 := b1.grown b16 b1.size (by rintro k ⟨⟩; omega)
  replace q := q.grown b16 q.size (by rintro k ⟨⟩; omega)
  have r4 := r18
  clear r18
  refine LL.nilS ?_
  refine CC.seq ?_
  refine CC.region ?_
  refine LL.val (R.load rfl rfl (I.ldNc (vs := [Value.int IntKind.i64 1, Value.int IntKind.i64 ↑slots, Value.int IntKind.i64 ↑slot, Value.int IntKind.i64 st, Value.int IntKind.u64 ↑key, Value.int IntKind.u64 ↑ptr, Value.int IntKind.u64 ↑ahead, Value.bool true, Value.bool true, Value.int IntKind.i64 ↑loads]) (RowL.cells r4 rfl) (by rfl) (by rfl))) rfl rfl rfl ?_
  refine LL.storeN (vs := [Value.int IntKind.i64 1, Value.int IntKind.i64 ↑slots, Value.int IntKind.i64 ↑slot, Value.int IntKind.i64 st, Value.int IntKind.u64 ↑key, Value.int IntKind.u64 ↑ptr, Value.int IntKind.u64 ↑ahead, Value.bool true, Value.bool true, Value.int IntKind.i64 ↑loads]) rfl rfl rfl rfl r10 (by exact Nat.le_of_ble_eq_true rfl) (ones_of rfl) rfl rfl ?_
  intro W21 r22 b20 z23
  have hlb20 := r10.lt
  replace r22 : RowL W21 _ 33 [Value.int IntKind.i64 1, Value.int IntKind.i64 ↑slots, Value.int IntKind.i64 ↑slot, Value.int IntKind.i64 st, Value.int IntKind.u64 ↑key, Value.int IntKind.u64 ↑ptr, Value.int IntKind.u64 ↑ahead, Value.bool true, Value.bool true, Value.int IntKind.i64 ↑loads] := r22
  clear r10
  replace b1 := b1.grown b20 b1.size (by rintro k ⟨⟩; omega)
  replace q := q.grown b20 q.size (by rintro k ⟨⟩; omega)
  replace r4 := r4.gr b20 (by have := r4.lt; omega)
  have r10 := r22
  clear r22
  refine LL.nilS ?_
  refine CC.ret ?_
  refine EE.thenR ?_
  refine EE.retC rfl rfl (lvNc (RowL.cells0 (by assumption)) (by rfl) (by rfl)) ?_
  exact ⟨rfl, q⟩
theorem ended_F2  {slots slot key ptr ahead loads : Nat} {is : Bool} {st : Int} {w : World} (hs : slot < slots) (hS : slots ≤ 28) (h1 : ptr ≠ 0) (h2 : ptr ≠ ahead) : Calls Try.prog 41 #[.agg #[.int .i64 2, .int .i64 (slots : Int), .int .i64 (slot : Int), .int .i64 st, .int .u64 (key : Int), .int .u64 (ptr : Int), .int .u64 (ahead : Int), .bool false, .bool is, .int .i64 (loads : Int)], .bool true] w fun e w' => e = .returned (.agg #[.int .i64 2, .int .i64 (slots : Int), .int .i64 (slot : Int), .int .i64 st, .int .u64 (key : Int), .int .u64 (ptr : Int), .int .u64 (ahead : Int), .bool true, .bool true, .int .i64 (loads : Int)]) ∧ Below w.heap.size w w' := by
  have q := Below.refl w.heap.size w
  refine X.fn Try.func41 rfl (n := 33) rfl rfl ?_
  refine CC.seq ?_
  refine CC.region ?_
  refine LL.box [Value.int IntKind.i64 2, Value.int IntKind.i64 ↑slots, Value.int IntKind.i64 ↑slot, Value.int IntKind.i64 st, Value.int IntKind.u64 ↑key, Value.int IntKind.u64 ↑ptr, Value.int IntKind.u64 ↑ahead, Value.bool false, Value.bool is, Value.int IntKind.i64 ↑loads] rfl rfl rfl rfl rfl ?_
  intro W2 g3 eg3 r4 z5 b1
  replace q := q.trans (b1.mono q.size)
  have l6 := r4.lt
  refine LL.alloc ([Value.int IntKind.i64 0, Value.int IntKind.i64 0, Value.int IntKind.i64 0, Value.int IntKind.i64 0, Value.int IntKind.u64 0, Value.int IntKind.u64 0, Value.int IntKind.u64 0, Value.bool false, Value.bool false, Value.int IntKind.i64 0]) rfl rfl rfl rfl rfl ?_
  intro W8 g9 eg9 r10 z11 b7
  replace r4 := r4.up b7
  replace b1 := b1.trans (b7.mono b1.size)
  replace q := q.trans (b7.mono q.size)
  refine LL.nilS ?_
  refine CC.seq ?_
  refine CC.seq ?_
  refine CC.region ?_
  refine LL.val (R.move rfl rfl) rfl rfl rfl ?_
  refine LL.val (R.move rfl rfl) rfl rfl rfl ?_
  refine LL.val (R.field rfl rfl (I.fld rfl)) rfl rfl rfl ?_
  refine LL.val (R.load rfl rfl (I.ld1 rfl (RowL.cell r4 rfl))) rfl rfl rfl ?_
  refine LL.val (R.neT rfl rfl rfl (by omega)) rfl rfl rfl ?_
  refine LL.val (R.pick rfl rfl rfl) rfl rfl rfl ?_
  refine LL.val (R.move rfl rfl) rfl rfl rfl ?_
  refine LL.val (R.field rfl rfl (I.fld rfl)) rfl rfl rfl ?_
  refine LL.val (R.load rfl rfl (I.ld1 rfl (RowL.cell r4 rfl))) rfl rfl rfl ?_
  refine LL.val (R.field rfl rfl (I.fld rfl)) rfl rfl rfl ?_
  refine LL.val (R.load rfl rfl (I.ld1 rfl (RowL.cell r4 rfl))) rfl rfl rfl ?_
  refine LL.val (R.neT rfl rfl rfl (by omega)) rfl rfl rfl ?_
  refine LL.val (R.pick rfl rfl rfl) rfl rfl rfl ?_
  refine LL.nilS ?_
  refine CC.yes rfl ?_
  refine CC.seq ?_
  refine CC.region ?_
  refine LL.val (R.field rfl rfl (I.fld rfl)) rfl rfl rfl ?_
  refine LL.store rfl rfl rfl rfl r4 (by exact Nat.le_of_ble_eq_true rfl) rfl rfl rfl rfl ?_
  intro W13 r14 b12 z15
  have hlb12 := r4.lt
  replace r14 : RowL W13 _ 33 [Value.int IntKind.i64 2, Value.int IntKind.i64 ↑slots, Value.int IntKind.i64 ↑slot, Value.int IntKind.i64 st, Value.int IntKind.u64 ↑key, Value.int IntKind.u64 ↑ptr, Value.int IntKind.u64 ↑ahead, Value.bool true, Value.bool is, Value.int IntKind.i64 ↑loads] := r14
  clear r4
  replace r10 := r10.gr b12 (by have := r10.lt; omega)
  replace b1 := b1.grown b12 b1.size (by rintro k ⟨⟩; omega)
  replace q := q.grown b12 q.size (by rintro k ⟨⟩; omega)
  have r4 := r14
  clear r14
  refine LL.val (R.field rfl rfl (I.fld rfl)) rfl rfl rfl ?_
  refine LL.store rfl rfl rfl rfl r4 (by exact Nat.le_of_ble_eq_true rfl) rfl rfl rfl rfl ?_
  intro W17 r18 b16 z19
  have hlb16 := r4.lt
  replace r18 : RowL W17 _ 33 [Value.int IntKind.i64 2, Value.int IntKind.i64 ↑slots, Value.int IntKind.i64 ↑slot, Value.int IntKind.i64 st, Value.int IntKind.u64 ↑key, Value.int IntKind.u64 ↑ptr, Value.int IntKind.u64 ↑ahead, Value.bool true, Value.bool true, Value.int IntKind.i64 ↑loads] := r18
  clear r4
  replace r10 := r10.gr b16 (by have := r10.lt; omega)
  replace b1 := b1.grown b16 b1.size (by rintro k ⟨⟩; omega)
  replace q := q.grown b16 q.size (by rintro k ⟨⟩; omega)
  have r4 := r18
  clear r18
  refine LL.nilS ?_
  refine CC.seq ?_
  refine CC.region ?_
  refine LL.val (R.load rfl rfl (I.ldNc (vs := [Value.int IntKind.i64 2, Value.int IntKind.i64 ↑slots, Value.int IntKind.i64 ↑slot, Value.int IntKind.i64 st, Value.int IntKind.u64 ↑key, Value.int IntKind.u64 ↑ptr, Value.int IntKind.u64 ↑ahead, Value.bool true, Value.bool true, Value.int IntKind.i64 ↑loads]) (RowL.cells r4 rfl) (by rfl) (by rfl))) rfl rfl rfl ?_
  refine LL.storeN (vs := [Value.int IntKind.i64 2, Value.int IntKind.i64 ↑slots, Value.int IntKind.i64 ↑slot, Value.int IntKind.i64 st, Value.int IntKind.u64 ↑key, Value.int IntKind.u64 ↑ptr, Value.int IntKind.u64 ↑ahead, Value.bool true, Value.bool true, Value.int IntKind.i64 ↑loads]) rfl rfl rfl rfl r10 (by exact Nat.le_of_ble_eq_true rfl) (ones_of rfl) rfl rfl ?_
  intro W21 r22 b20 z23
  have hlb20 := r10.lt
  replace r22 : RowL W21 _ 33 [Value.int IntKind.i64 2, Value.int IntKind.i64 ↑slots, Value.int IntKind.i64 ↑slot, Value.int IntKind.i64 st, Value.int IntKind.u64 ↑key, Value.int IntKind.u64 ↑ptr, Value.int IntKind.u64 ↑ahead, Value.bool true, Value.bool true, Value.int IntKind.i64 ↑loads] := r22
  clear r10
  replace b1 := b1.grown b20 b1.size (by rintro k ⟨⟩; omega)
  replace q := q.grown b20 q.size (by rintro k ⟨⟩; omega)
  replace r4 := r4.gr b20 (by have := r4.lt; omega)
  have r10 := r22
  clear r22
  refine LL.nilS ?_
  refine CC.ret ?_
  refine EE.thenR ?_
  refine EE.retC rfl rfl (lvNc (RowL.cells0 (by assumption)) (by rfl) (by rfl)) ?_
  exact ⟨rfl, q⟩
theorem ended_0 (b : Bool) {slots slot key ptr ahead loads : Nat} {is : Bool} {st : Int} {w : World} (hs : slot < slots) (hS : slots ≤ 28) (h1 : ptr = 0) : Calls Try.prog 41 #[.agg #[.int .i64 1, .int .i64 (slots : Int), .int .i64 (slot : Int), .int .i64 st, .int .u64 (key : Int), .int .u64 (ptr : Int), .int .u64 (ahead : Int), .bool false, .bool is, .int .i64 (loads : Int)], .bool b] w fun e w' => e = .returned (.agg #[.int .i64 1, .int .i64 (slots : Int), .int .i64 (slot : Int), .int .i64 st, .int .u64 (key : Int), .int .u64 (ptr : Int), .int .u64 (ahead : Int), .bool true, .bool is, .int .i64 (loads : Int)]) ∧ Below w.heap.size w w' := by
  have q := Below.refl w.heap.size w
  cases b
  · refine X.fn Try.func41 rfl (n := 33) rfl rfl ?_
    refine CC.seq ?_
    refine CC.region ?_
    refine LL.box [Value.int IntKind.i64 1, Value.int IntKind.i64 ↑slots, Value.int IntKind.i64 ↑slot, Value.int IntKind.i64 st, Value.int IntKind.u64 ↑key, Value.int IntKind.u64 ↑ptr, Value.int IntKind.u64 ↑ahead, Value.bool false, Value.bool is, Value.int IntKind.i64 ↑loads] rfl rfl rfl rfl rfl ?_
    intro W2 g3 eg3 r4 z5 b1
    replace q := q.trans (b1.mono q.size)
    have l6 := r4.lt
    refine LL.alloc ([Value.int IntKind.i64 0, Value.int IntKind.i64 0, Value.int IntKind.i64 0, Value.int IntKind.i64 0, Value.int IntKind.u64 0, Value.int IntKind.u64 0, Value.int IntKind.u64 0, Value.bool false, Value.bool false, Value.int IntKind.i64 0]) rfl rfl rfl rfl rfl ?_
    intro W8 g9 eg9 r10 z11 b7
    replace r4 := r4.up b7
    replace b1 := b1.trans (b7.mono b1.size)
    replace q := q.trans (b7.mono q.size)
    refine LL.nilS ?_
    refine CC.seq ?_
    refine CC.seq ?_
    refine CC.region ?_
    refine LL.val (R.move rfl rfl) rfl rfl rfl ?_
    refine LL.val (R.move rfl rfl) rfl rfl rfl ?_
    refine LL.skip rfl rfl ?_
    refine LL.skip rfl rfl ?_
    refine LL.skip rfl rfl ?_
    refine LL.val (R.pick rfl rfl rfl) rfl rfl rfl ?_
    refine LL.val (R.move rfl rfl) rfl rfl rfl ?_
    refine LL.skip rfl rfl ?_
    refine LL.skip rfl rfl ?_
    refine LL.skip rfl rfl ?_
    refine LL.skip rfl rfl ?_
    refine LL.skip rfl rfl ?_
    refine LL.val (R.pick rfl rfl rfl) rfl rfl rfl ?_
    refine LL.nilS ?_
    refine CC.no rfl ?_
    refine CC.skip ?_
    refine EE.thenN ?_
    refine CC.seq ?_
    refine CC.seq ?_
    refine CC.region ?_
    refine LL.val (R.field rfl rfl (I.fld rfl)) rfl rfl rfl ?_
    refine LL.val (R.load rfl rfl (I.ld1 rfl (RowL.cell r4 rfl))) rfl rfl rfl ?_
    refine LL.val (R.eqT rfl rfl rfl (by omega)) rfl rfl rfl ?_
    refine LL.val (R.move rfl rfl) rfl rfl rfl ?_
    refine LL.val (R.field rfl rfl (I.fld rfl)) rfl rfl rfl ?_
    refine LL.val (R.load rfl rfl (I.ld1 rfl (RowL.cell r4 rfl))) rfl rfl rfl ?_
    refine LL.val (R.eqT rfl rfl rfl (by omega)) rfl rfl rfl ?_
    refine LL.val (R.pick rfl rfl rfl) rfl rfl rfl ?_
    refine LL.nilS ?_
    refine CC.yes rfl ?_
    refine CC.seq ?_
    refine CC.region ?_
    refine LL.val (R.field rfl rfl (I.fld rfl)) rfl rfl rfl ?_
    refine LL.store rfl rfl rfl rfl r4 (by exact Nat.le_of_ble_eq_true rfl) rfl rfl rfl rfl ?_
    intro W13 r14 b12 z15
    have hlb12 := r4.lt
    replace r14 : RowL W13 _ 33 [Value.int IntKind.i64 1, Value.int IntKind.i64 ↑slots, Value.int IntKind.i64 ↑slot, Value.int IntKind.i64 st, Value.int IntKind.u64 ↑key, Value.int IntKind.u64 ↑ptr, Value.int IntKind.u64 ↑ahead, Value.bool true, Value.bool is, Value.int IntKind.i64 ↑loads] := r14
    clear r4
    replace r10 := r10.gr b12 (by have := r10.lt; omega)
    replace b1 := b1.grown b12 b1.size (by rintro k ⟨⟩; omega)
    replace q := q.grown b12 q.size (by rintro k ⟨⟩; omega)
    have r4 := r14
    clear r14
    refine LL.nilS ?_
    refine CC.seq ?_
    refine CC.region ?_
    refine LL.val (R.load rfl rfl (I.ldNc (vs := [Value.int IntKind.i64 1, Value.int IntKind.i64 ↑slots, Value.int IntKind.i64 ↑slot, Value.int IntKind.i64 st, Value.int IntKind.u64 ↑key, Value.int IntKind.u64 ↑ptr, Value.int IntKind.u64 ↑ahead, Value.bool true, Value.bool is, Value.int IntKind.i64 ↑loads]) (RowL.cells r4 rfl) (by rfl) (by rfl))) rfl rfl rfl ?_
    refine LL.storeN (vs := [Value.int IntKind.i64 1, Value.int IntKind.i64 ↑slots, Value.int IntKind.i64 ↑slot, Value.int IntKind.i64 st, Value.int IntKind.u64 ↑key, Value.int IntKind.u64 ↑ptr, Value.int IntKind.u64 ↑ahead, Value.bool true, Value.bool is, Value.int IntKind.i64 ↑loads]) rfl rfl rfl rfl r10 (by exact Nat.le_of_ble_eq_true rfl) (ones_of rfl) rfl rfl ?_
    intro W17 r18 b16 z19
    have hlb16 := r10.lt
    replace r18 : RowL W17 _ 33 [Value.int IntKind.i64 1, Value.int IntKind.i64 ↑slots, Value.int IntKind.i64 ↑slot, Value.int IntKind.i64 st, Value.int IntKind.u64 ↑key, Value.int IntKind.u64 ↑ptr, Value.int IntKind.u64 ↑ahead, Value.bool true, Value.bool is, Value.int IntKind.i64 ↑loads] := r18
    clear r10
    replace b1 := b1.grown b16 b1.size (by rintro k ⟨⟩; omega)
    replace q := q.grown b16 q.size (by rintro k ⟨⟩; omega)
    replace r4 := r4.gr b16 (by have := r4.lt; omega)
    have r10 := r18
    clear r18
    refine LL.nilS ?_
    refine CC.ret ?_
    refine EE.thenR ?_
    refine EE.retC rfl rfl (lvNc (RowL.cells0 (by assumption)) (by rfl) (by rfl)) ?_
    exact ⟨rfl, q⟩
  · refine X.fn Try.func41 rfl (n := 33) rfl rfl ?_
    refine CC.seq ?_
    refine CC.region ?_
    refine LL.box [Value.int IntKind.i64 1, Value.int IntKind.i64 ↑slots, Value.int IntKind.i64 ↑slot, Value.int IntKind.i64 st, Value.int IntKind.u64 ↑key, Value.int IntKind.u64 ↑ptr, Value.int IntKind.u64 ↑ahead, Value.bool false, Value.bool is, Value.int IntKind.i64 ↑loads] rfl rfl rfl rfl rfl ?_
    intro Wa2 ga3 ega3 ra4 za5 ba1
    replace q := q.trans (ba1.mono q.size)
    have la6 := ra4.lt
    refine LL.alloc ([Value.int IntKind.i64 0, Value.int IntKind.i64 0, Value.int IntKind.i64 0, Value.int IntKind.i64 0, Value.int IntKind.u64 0, Value.int IntKind.u64 0, Value.int IntKind.u64 0, Value.bool false, Value.bool false, Value.int IntKind.i64 0]) rfl rfl rfl rfl rfl ?_
    intro Wa8 ga9 ega9 ra10 za11 ba7
    replace ra4 := ra4.up ba7
    replace ba1 := ba1.trans (ba7.mono ba1.size)
    replace q := q.trans (ba7.mono q.size)
    refine LL.nilS ?_
    refine CC.seq ?_
    refine CC.seq ?_
    refine CC.region ?_
    refine LL.val (R.move rfl rfl) rfl rfl rfl ?_
    refine LL.val (R.move rfl rfl) rfl rfl rfl ?_
    refine LL.val (R.field rfl rfl (I.fld rfl)) rfl rfl rfl ?_
    refine LL.val (R.load rfl rfl (I.ld1 rfl (RowL.cell ra4 rfl))) rfl rfl rfl ?_
    refine LL.val (R.neF rfl rfl rfl (by omega)) rfl rfl rfl ?_
    refine LL.val (R.pick rfl rfl rfl) rfl rfl rfl ?_
    refine LL.val (R.move rfl rfl) rfl rfl rfl ?_
    refine LL.skip rfl rfl ?_
    refine LL.skip rfl rfl ?_
    refine LL.skip rfl rfl ?_
    refine LL.skip rfl rfl ?_
    refine LL.skip rfl rfl ?_
    refine LL.val (R.pick rfl rfl rfl) rfl rfl rfl ?_
    refine LL.nilS ?_
    refine CC.no rfl ?_
    refine CC.skip ?_
    refine EE.thenN ?_
    refine CC.seq ?_
    refine CC.seq ?_
    refine CC.region ?_
    refine LL.val (R.field rfl rfl (I.fld rfl)) rfl rfl rfl ?_
    refine LL.val (R.load rfl rfl (I.ld1 rfl (RowL.cell ra4 rfl))) rfl rfl rfl ?_
    refine LL.val (R.eqT rfl rfl rfl (by omega)) rfl rfl rfl ?_
    refine LL.val (R.move rfl rfl) rfl rfl rfl ?_
    refine LL.val (R.field rfl rfl (I.fld rfl)) rfl rfl rfl ?_
    refine LL.val (R.load rfl rfl (I.ld1 rfl (RowL.cell ra4 rfl))) rfl rfl rfl ?_
    refine LL.val (R.eqT rfl rfl rfl (by omega)) rfl rfl rfl ?_
    refine LL.val (R.pick rfl rfl rfl) rfl rfl rfl ?_
    refine LL.nilS ?_
    refine CC.yes rfl ?_
    refine CC.seq ?_
    refine CC.region ?_
    refine LL.val (R.field rfl rfl (I.fld rfl)) rfl rfl rfl ?_
    refine LL.store rfl rfl rfl rfl ra4 (by exact Nat.le_of_ble_eq_true rfl) rfl rfl rfl rfl ?_
    intro Wa13 ra14 ba12 za15
    have hlba12 := ra4.lt
    replace ra14 : RowL Wa13 _ 33 [Value.int IntKind.i64 1, Value.int IntKind.i64 ↑slots, Value.int IntKind.i64 ↑slot, Value.int IntKind.i64 st, Value.int IntKind.u64 ↑key, Value.int IntKind.u64 ↑ptr, Value.int IntKind.u64 ↑ahead, Value.bool true, Value.bool is, Value.int IntKind.i64 ↑loads] := ra14
    clear ra4
    replace ra10 := ra10.gr ba12 (by have := ra10.lt; omega)
    replace ba1 := ba1.grown ba12 ba1.size (by rintro k ⟨⟩; omega)
    replace q := q.grown ba12 q.size (by rintro k ⟨⟩; omega)
    have ra4 := ra14
    clear ra14
    refine LL.nilS ?_
    refine CC.seq ?_
    refine CC.region ?_
    refine LL.val (R.load rfl rfl (I.ldNc (vs := [Value.int IntKind.i64 1, Value.int IntKind.i64 ↑slots, Value.int IntKind.i64 ↑slot, Value.int IntKind.i64 st, Value.int IntKind.u64 ↑key, Value.int IntKind.u64 ↑ptr, Value.int IntKind.u64 ↑ahead, Value.bool true, Value.bool is, Value.int IntKind.i64 ↑loads]) (RowL.cells ra4 rfl) (by rfl) (by rfl))) rfl rfl rfl ?_
    refine LL.storeN (vs := [Value.int IntKind.i64 1, Value.int IntKind.i64 ↑slots, Value.int IntKind.i64 ↑slot, Value.int IntKind.i64 st, Value.int IntKind.u64 ↑key, Value.int IntKind.u64 ↑ptr, Value.int IntKind.u64 ↑ahead, Value.bool true, Value.bool is, Value.int IntKind.i64 ↑loads]) rfl rfl rfl rfl ra10 (by exact Nat.le_of_ble_eq_true rfl) (ones_of rfl) rfl rfl ?_
    intro Wa17 ra18 ba16 za19
    have hlba16 := ra10.lt
    replace ra18 : RowL Wa17 _ 33 [Value.int IntKind.i64 1, Value.int IntKind.i64 ↑slots, Value.int IntKind.i64 ↑slot, Value.int IntKind.i64 st, Value.int IntKind.u64 ↑key, Value.int IntKind.u64 ↑ptr, Value.int IntKind.u64 ↑ahead, Value.bool true, Value.bool is, Value.int IntKind.i64 ↑loads] := ra18
    clear ra10
    replace ba1 := ba1.grown ba16 ba1.size (by rintro k ⟨⟩; omega)
    replace q := q.grown ba16 q.size (by rintro k ⟨⟩; omega)
    replace ra4 := ra4.gr ba16 (by have := ra4.lt; omega)
    have ra10 := ra18
    clear ra18
    refine LL.nilS ?_
    refine CC.ret ?_
    refine EE.thenR ?_
    refine EE.retC rfl rfl (lvNc (RowL.cells0 (by assumption)) (by rfl) (by rfl)) ?_
    exact ⟨rfl, q⟩
theorem ended_upT (b : Bool) {slots slot key ptr ahead loads : Nat} {is : Bool} {st : Int} {w : World} (hs : slot < slots) (hS : slots ≤ 28) (h : ¬ (b = true ∧ ptr ≠ 0 ∧ ptr ≠ ahead)) (h0 : ptr ≠ 0) (hl : slot + 1 = slots) : Calls Try.prog 41 #[.agg #[.int .i64 1, .int .i64 (slots : Int), .int .i64 (slot : Int), .int .i64 st, .int .u64 (key : Int), .int .u64 (ptr : Int), .int .u64 (ahead : Int), .bool false, .bool is, .int .i64 (loads : Int)], .bool b] w fun e w' => e = .returned (.agg #[.int .i64 1, .int .i64 (slots : Int), .int .i64 ((slot + 1 : Nat) : Int), .int .i64 0, .int .u64 (key : Int), .int .u64 (ptr : Int), .int .u64 (ahead : Int), .bool true, .bool is, .int .i64 (loads : Int)]) ∧ Below w.heap.size w w' := by
  have q := Below.refl w.heap.size w
  cases b with
  | false =>
    clear h
    refine X.fn Try.func41 rfl (n := 33) rfl rfl ?_
    refine CC.seq ?_
    refine CC.region ?_
    refine LL.box [Value.int IntKind.i64 1, Value.int IntKind.i64 ↑slots, Value.int IntKind.i64 ↑slot, Value.int IntKind.i64 st, Value.int IntKind.u64 ↑key, Value.int IntKind.u64 ↑ptr, Value.int IntKind.u64 ↑ahead, Value.bool false, Value.bool is, Value.int IntKind.i64 ↑loads] rfl rfl rfl rfl rfl ?_
    intro W9 g10 eg10 r11 z12 b8
    replace q := q.trans (b8.mono q.size)
    have l21 := r11.lt
    refine LL.alloc ([Value.int IntKind.i64 0, Value.int IntKind.i64 0, Value.int IntKind.i64 0, Value.int IntKind.i64 0, Value.int IntKind.u64 0, Value.int IntKind.u64 0, Value.int IntKind.u64 0, Value.bool false, Value.bool false, Value.int IntKind.i64 0]) rfl rfl rfl rfl rfl ?_
    intro W23 g24 eg24 r25 z26 b22
    replace r11 := r11.up b22
    replace b8 := b8.trans (b22.mono b8.size)
    replace q := q.trans (b22.mono q.size)
    refine LL.nilS ?_
    refine CC.seq ?_
    refine CC.seq ?_
    refine CC.region ?_
    refine LL.val (R.move rfl rfl) rfl rfl rfl ?_
    refine LL.val (R.move rfl rfl) rfl rfl rfl ?_
    refine LL.skip rfl rfl ?_
    refine LL.skip rfl rfl ?_
    refine LL.skip rfl rfl ?_
    refine LL.val (R.pick rfl rfl rfl) rfl rfl rfl ?_
    refine LL.val (R.move rfl rfl) rfl rfl rfl ?_
    refine LL.skip rfl rfl ?_
    refine LL.skip rfl rfl ?_
    refine LL.skip rfl rfl ?_
    refine LL.skip rfl rfl ?_
    refine LL.skip rfl rfl ?_
    refine LL.val (R.pick rfl rfl rfl) rfl rfl rfl ?_
    refine LL.nilS ?_
    refine CC.no rfl ?_
    refine CC.skip ?_
    refine EE.thenN ?_
    refine CC.seq ?_
    refine CC.seq ?_
    refine CC.region ?_
    refine LL.val (R.field rfl rfl (I.fld rfl)) rfl rfl rfl ?_
    refine LL.val (R.load rfl rfl (I.ld1 rfl (RowL.cell r11 rfl))) rfl rfl rfl ?_
    refine LL.val (R.eqT rfl rfl rfl (by omega)) rfl rfl rfl ?_
    refine LL.val (R.move rfl rfl) rfl rfl rfl ?_
    refine LL.val (R.field rfl rfl (I.fld rfl)) rfl rfl rfl ?_
    refine LL.val (R.load rfl rfl (I.ld1 rfl (RowL.cell r11 rfl))) rfl rfl rfl ?_
    refine LL.val (R.eqF rfl rfl rfl (by omega)) rfl rfl rfl ?_
    refine LL.val (R.pick rfl rfl rfl) rfl rfl rfl ?_
    refine LL.nilS ?_
    refine CC.no rfl ?_
    refine CC.skip ?_
    refine EE.thenN ?_
    refine CC.seq ?_
    refine CC.region ?_
    refine LL.val (R.load rfl rfl (I.ldNc (vs := [Value.int IntKind.i64 1, Value.int IntKind.i64 ↑slots, Value.int IntKind.i64 ↑slot, Value.int IntKind.i64 st, Value.int IntKind.u64 ↑key, Value.int IntKind.u64 ↑ptr, Value.int IntKind.u64 ↑ahead, Value.bool false, Value.bool is, Value.int IntKind.i64 ↑loads]) (RowL.cells r11 rfl) (by rfl) (by rfl))) rfl rfl rfl ?_
    have l157 := r25.lt
    have l158 := r11.lt
    (refine LL.call (R.call rfl rfl rfl) rfl rfl rfl (goes_upT hs hS hl) ?_; rintro e W156 ⟨rfl, b153⟩; refine ⟨_, rfl, ?_⟩)
    have zb153 := b153.size
    replace r25 := r25.up b153
    replace b22 := b22.trans (b153.mono b22.size)
    replace r11 := r11.up b153
    replace b8 := b8.trans (b153.mono b8.size)
    replace q := q.trans (b153.mono q.size)
    refine LL.storeN (vs := [Value.int IntKind.i64 1, Value.int IntKind.i64 ↑slots, Value.int IntKind.i64 ↑(slot + 1), Value.int IntKind.i64 0, Value.int IntKind.u64 ↑key, Value.int IntKind.u64 ↑ptr, Value.int IntKind.u64 ↑ahead, Value.bool true, Value.bool is, Value.int IntKind.i64 ↑loads]) rfl rfl rfl rfl r25 (by exact Nat.le_of_ble_eq_true rfl) (ones_of rfl) rfl rfl ?_
    intro W172 r173 b171 z174
    have hlb171 := r25.lt
    replace r173 : RowL W172 _ 33 [Value.int IntKind.i64 1, Value.int IntKind.i64 ↑slots, Value.int IntKind.i64 ↑(slot + 1), Value.int IntKind.i64 0, Value.int IntKind.u64 ↑key, Value.int IntKind.u64 ↑ptr, Value.int IntKind.u64 ↑ahead, Value.bool true, Value.bool is, Value.int IntKind.i64 ↑loads] := r173
    clear r25
    replace b22 := b22.grown b171 b22.size (by rintro k ⟨⟩; omega)
    replace r11 := r11.gr b171 (by have := r11.lt; omega)
    replace b8 := b8.grown b171 b8.size (by rintro k ⟨⟩; omega)
    replace q := q.grown b171 q.size (by rintro k ⟨⟩; omega)
    have r25 := r173
    clear r173
    refine LL.nilS ?_
    refine CC.ret ?_
    refine EE.retC rfl rfl (lvNc (RowL.cells0 (by assumption)) (by rfl) (by rfl)) ?_
    exact ⟨rfl, q⟩
  | true =>
    by_cases h1 : ptr = 0
    · clear h
      exact absurd h1 h0
    · have h2 : ptr = ahead := Decidable.byContradiction fun h2 => h ⟨rfl, h1, h2⟩
      clear h
      refine X.fn Try.func41 rfl (n := 33) rfl rfl ?_
      refine CC.seq ?_
      refine CC.region ?_
      refine LL.box [Value.int IntKind.i64 1, Value.int IntKind.i64 ↑slots, Value.int IntKind.i64 ↑slot, Value.int IntKind.i64 st, Value.int IntKind.u64 ↑key, Value.int IntKind.u64 ↑ptr, Value.int IntKind.u64 ↑ahead, Value.bool false, Value.bool is, Value.int IntKind.i64 ↑loads] rfl rfl rfl rfl rfl ?_
      intro Wa9 ga10 ega10 ra11 za12 ba8
      replace q := q.trans (ba8.mono q.size)
      have la21 := ra11.lt
      refine LL.alloc ([Value.int IntKind.i64 0, Value.int IntKind.i64 0, Value.int IntKind.i64 0, Value.int IntKind.i64 0, Value.int IntKind.u64 0, Value.int IntKind.u64 0, Value.int IntKind.u64 0, Value.bool false, Value.bool false, Value.int IntKind.i64 0]) rfl rfl rfl rfl rfl ?_
      intro Wa23 ga24 ega24 ra25 za26 ba22
      replace ra11 := ra11.up ba22
      replace ba8 := ba8.trans (ba22.mono ba8.size)
      replace q := q.trans (ba22.mono q.size)
      refine LL.nilS ?_
      refine CC.seq ?_
      refine CC.seq ?_
      refine CC.region ?_
      refine LL.val (R.move rfl rfl) rfl rfl rfl ?_
      refine LL.val (R.move rfl rfl) rfl rfl rfl ?_
      refine LL.val (R.field rfl rfl (I.fld rfl)) rfl rfl rfl ?_
      refine LL.val (R.load rfl rfl (I.ld1 rfl (RowL.cell ra11 rfl))) rfl rfl rfl ?_
      refine LL.val (R.neT rfl rfl rfl (by omega)) rfl rfl rfl ?_
      refine LL.val (R.pick rfl rfl rfl) rfl rfl rfl ?_
      refine LL.val (R.move rfl rfl) rfl rfl rfl ?_
      refine LL.val (R.field rfl rfl (I.fld rfl)) rfl rfl rfl ?_
      refine LL.val (R.load rfl rfl (I.ld1 rfl (RowL.cell ra11 rfl))) rfl rfl rfl ?_
      refine LL.val (R.field rfl rfl (I.fld rfl)) rfl rfl rfl ?_
      refine LL.val (R.load rfl rfl (I.ld1 rfl (RowL.cell ra11 rfl))) rfl rfl rfl ?_
      refine LL.val (R.neF rfl rfl rfl (by omega)) rfl rfl rfl ?_
      refine LL.val (R.pick rfl rfl rfl) rfl rfl rfl ?_
      refine LL.nilS ?_
      refine CC.no rfl ?_
      refine CC.skip ?_
      refine EE.thenN ?_
      refine CC.seq ?_
      refine CC.seq ?_
      refine CC.region ?_
      refine LL.val (R.field rfl rfl (I.fld rfl)) rfl rfl rfl ?_
      refine LL.val (R.load rfl rfl (I.ld1 rfl (RowL.cell ra11 rfl))) rfl rfl rfl ?_
      refine LL.val (R.eqT rfl rfl rfl (by omega)) rfl rfl rfl ?_
      refine LL.val (R.move rfl rfl) rfl rfl rfl ?_
      refine LL.val (R.field rfl rfl (I.fld rfl)) rfl rfl rfl ?_
      refine LL.val (R.load rfl rfl (I.ld1 rfl (RowL.cell ra11 rfl))) rfl rfl rfl ?_
      refine LL.val (R.eqF rfl rfl rfl (by omega)) rfl rfl rfl ?_
      refine LL.val (R.pick rfl rfl rfl) rfl rfl rfl ?_
      refine LL.nilS ?_
      refine CC.no rfl ?_
      refine CC.skip ?_
      refine EE.thenN ?_
      refine CC.seq ?_
      refine CC.region ?_
      refine LL.val (R.load rfl rfl (I.ldNc (vs := [Value.int IntKind.i64 1, Value.int IntKind.i64 ↑slots, Value.int IntKind.i64 ↑slot, Value.int IntKind.i64 st, Value.int IntKind.u64 ↑key, Value.int IntKind.u64 ↑ptr, Value.int IntKind.u64 ↑ahead, Value.bool false, Value.bool is, Value.int IntKind.i64 ↑loads]) (RowL.cells ra11 rfl) (by rfl) (by rfl))) rfl rfl rfl ?_
      have la229 := ra25.lt
      have la230 := ra11.lt
      (refine LL.call (R.call rfl rfl rfl) rfl rfl rfl (goes_upT hs hS hl) ?_; rintro e Wa228 ⟨rfl, ba225⟩; refine ⟨_, rfl, ?_⟩)
      have zba225 := ba225.size
      replace ra25 := ra25.up ba225
      replace ba22 := ba22.trans (ba225.mono ba22.size)
      replace ra11 := ra11.up ba225
      replace ba8 := ba8.trans (ba225.mono ba8.size)
      replace q := q.trans (ba225.mono q.size)
      refine LL.storeN (vs := [Value.int IntKind.i64 1, Value.int IntKind.i64 ↑slots, Value.int IntKind.i64 ↑(slot + 1), Value.int IntKind.i64 0, Value.int IntKind.u64 ↑key, Value.int IntKind.u64 ↑ptr, Value.int IntKind.u64 ↑ahead, Value.bool true, Value.bool is, Value.int IntKind.i64 ↑loads]) rfl rfl rfl rfl ra25 (by exact Nat.le_of_ble_eq_true rfl) (ones_of rfl) rfl rfl ?_
      intro Wa244 ra245 ba243 za246
      have hlba243 := ra25.lt
      replace ra245 : RowL Wa244 _ 33 [Value.int IntKind.i64 1, Value.int IntKind.i64 ↑slots, Value.int IntKind.i64 ↑(slot + 1), Value.int IntKind.i64 0, Value.int IntKind.u64 ↑key, Value.int IntKind.u64 ↑ptr, Value.int IntKind.u64 ↑ahead, Value.bool true, Value.bool is, Value.int IntKind.i64 ↑loads] := ra245
      clear ra25
      replace ba22 := ba22.grown ba243 ba22.size (by rintro k ⟨⟩; omega)
      replace ra11 := ra11.gr ba243 (by have := ra11.lt; omega)
      replace ba8 := ba8.grown ba243 ba8.size (by rintro k ⟨⟩; omega)
      replace q := q.grown ba243 q.size (by rintro k ⟨⟩; omega)
      have ra25 := ra245
      clear ra245
      refine LL.nilS ?_
      refine CC.ret ?_
      refine EE.retC rfl rfl (lvNc (RowL.cells0 (by assumption)) (by rfl) (by rfl)) ?_
      exact ⟨rfl, q⟩
theorem ended_upF (b : Bool) {slots slot key ptr ahead loads : Nat} {is : Bool} {st : Int} {w : World} (hs : slot < slots) (hS : slots ≤ 28) (h : ¬ (b = true ∧ ptr ≠ 0 ∧ ptr ≠ ahead)) (h0 : ptr ≠ 0) (hl : slot + 1 < slots) : Calls Try.prog 41 #[.agg #[.int .i64 1, .int .i64 (slots : Int), .int .i64 (slot : Int), .int .i64 st, .int .u64 (key : Int), .int .u64 (ptr : Int), .int .u64 (ahead : Int), .bool false, .bool is, .int .i64 (loads : Int)], .bool b] w fun e w' => e = .returned (.agg #[.int .i64 1, .int .i64 (slots : Int), .int .i64 ((slot + 1 : Nat) : Int), .int .i64 0, .int .u64 (key : Int), .int .u64 (ptr : Int), .int .u64 (ahead : Int), .bool false, .bool is, .int .i64 (loads : Int)]) ∧ Below w.heap.size w w' := by
  have q := Below.refl w.heap.size w
  cases b with
  | false =>
    clear h
    refine X.fn Try.func41 rfl (n := 33) rfl rfl ?_
    refine CC.seq ?_
    refine CC.region ?_
    refine LL.box [Value.int IntKind.i64 1, Value.int IntKind.i64 ↑slots, Value.int IntKind.i64 ↑slot, Value.int IntKind.i64 st, Value.int IntKind.u64 ↑key, Value.int IntKind.u64 ↑ptr, Value.int IntKind.u64 ↑ahead, Value.bool false, Value.bool is, Value.int IntKind.i64 ↑loads] rfl rfl rfl rfl rfl ?_
    intro W9 g10 eg10 r11 z12 b8
    replace q := q.trans (b8.mono q.size)
    have l21 := r11.lt
    refine LL.alloc ([Value.int IntKind.i64 0, Value.int IntKind.i64 0, Value.int IntKind.i64 0, Value.int IntKind.i64 0, Value.int IntKind.u64 0, Value.int IntKind.u64 0, Value.int IntKind.u64 0, Value.bool false, Value.bool false, Value.int IntKind.i64 0]) rfl rfl rfl rfl rfl ?_
    intro W23 g24 eg24 r25 z26 b22
    replace r11 := r11.up b22
    replace b8 := b8.trans (b22.mono b8.size)
    replace q := q.trans (b22.mono q.size)
    refine LL.nilS ?_
    refine CC.seq ?_
    refine CC.seq ?_
    refine CC.region ?_
    refine LL.val (R.move rfl rfl) rfl rfl rfl ?_
    refine LL.val (R.move rfl rfl) rfl rfl rfl ?_
    refine LL.skip rfl rfl ?_
    refine LL.skip rfl rfl ?_
    refine LL.skip rfl rfl ?_
    refine LL.val (R.pick rfl rfl rfl) rfl rfl rfl ?_
    refine LL.val (R.move rfl rfl) rfl rfl rfl ?_
    refine LL.skip rfl rfl ?_
    refine LL.skip rfl rfl ?_
    refine LL.skip rfl rfl ?_
    refine LL.skip rfl rfl ?_
    refine LL.skip rfl rfl ?_
    refine LL.val (R.pick rfl rfl rfl) rfl rfl rfl ?_
    refine LL.nilS ?_
    refine CC.no rfl ?_
    refine CC.skip ?_
    refine EE.thenN ?_
    refine CC.seq ?_
    refine CC.seq ?_
    refine CC.region ?_
    refine LL.val (R.field rfl rfl (I.fld rfl)) rfl rfl rfl ?_
    refine LL.val (R.load rfl rfl (I.ld1 rfl (RowL.cell r11 rfl))) rfl rfl rfl ?_
    refine LL.val (R.eqT rfl rfl rfl (by omega)) rfl rfl rfl ?_
    refine LL.val (R.move rfl rfl) rfl rfl rfl ?_
    refine LL.val (R.field rfl rfl (I.fld rfl)) rfl rfl rfl ?_
    refine LL.val (R.load rfl rfl (I.ld1 rfl (RowL.cell r11 rfl))) rfl rfl rfl ?_
    refine LL.val (R.eqF rfl rfl rfl (by omega)) rfl rfl rfl ?_
    refine LL.val (R.pick rfl rfl rfl) rfl rfl rfl ?_
    refine LL.nilS ?_
    refine CC.no rfl ?_
    refine CC.skip ?_
    refine EE.thenN ?_
    refine CC.seq ?_
    refine CC.region ?_
    refine LL.val (R.load rfl rfl (I.ldNc (vs := [Value.int IntKind.i64 1, Value.int IntKind.i64 ↑slots, Value.int IntKind.i64 ↑slot, Value.int IntKind.i64 st, Value.int IntKind.u64 ↑key, Value.int IntKind.u64 ↑ptr, Value.int IntKind.u64 ↑ahead, Value.bool false, Value.bool is, Value.int IntKind.i64 ↑loads]) (RowL.cells r11 rfl) (by rfl) (by rfl))) rfl rfl rfl ?_
    have l157 := r25.lt
    have l158 := r11.lt
    (refine LL.call (R.call rfl rfl rfl) rfl rfl rfl (goes_upF hs hS hl) ?_; rintro e W156 ⟨rfl, b153⟩; refine ⟨_, rfl, ?_⟩)
    have zb153 := b153.size
    replace r25 := r25.up b153
    replace b22 := b22.trans (b153.mono b22.size)
    replace r11 := r11.up b153
    replace b8 := b8.trans (b153.mono b8.size)
    replace q := q.trans (b153.mono q.size)
    refine LL.storeN (vs := [Value.int IntKind.i64 1, Value.int IntKind.i64 ↑slots, Value.int IntKind.i64 ↑(slot + 1), Value.int IntKind.i64 0, Value.int IntKind.u64 ↑key, Value.int IntKind.u64 ↑ptr, Value.int IntKind.u64 ↑ahead, Value.bool false, Value.bool is, Value.int IntKind.i64 ↑loads]) rfl rfl rfl rfl r25 (by exact Nat.le_of_ble_eq_true rfl) (ones_of rfl) rfl rfl ?_
    intro W172 r173 b171 z174
    have hlb171 := r25.lt
    replace r173 : RowL W172 _ 33 [Value.int IntKind.i64 1, Value.int IntKind.i64 ↑slots, Value.int IntKind.i64 ↑(slot + 1), Value.int IntKind.i64 0, Value.int IntKind.u64 ↑key, Value.int IntKind.u64 ↑ptr, Value.int IntKind.u64 ↑ahead, Value.bool false, Value.bool is, Value.int IntKind.i64 ↑loads] := r173
    clear r25
    replace b22 := b22.grown b171 b22.size (by rintro k ⟨⟩; omega)
    replace r11 := r11.gr b171 (by have := r11.lt; omega)
    replace b8 := b8.grown b171 b8.size (by rintro k ⟨⟩; omega)
    replace q := q.grown b171 q.size (by rintro k ⟨⟩; omega)
    have r25 := r173
    clear r173
    refine LL.nilS ?_
    refine CC.ret ?_
    refine EE.retC rfl rfl (lvNc (RowL.cells0 (by assumption)) (by rfl) (by rfl)) ?_
    exact ⟨rfl, q⟩
  | true =>
    by_cases h1 : ptr = 0
    · clear h
      exact absurd h1 h0
    · have h2 : ptr = ahead := Decidable.byContradiction fun h2 => h ⟨rfl, h1, h2⟩
      clear h
      refine X.fn Try.func41 rfl (n := 33) rfl rfl ?_
      refine CC.seq ?_
      refine CC.region ?_
      refine LL.box [Value.int IntKind.i64 1, Value.int IntKind.i64 ↑slots, Value.int IntKind.i64 ↑slot, Value.int IntKind.i64 st, Value.int IntKind.u64 ↑key, Value.int IntKind.u64 ↑ptr, Value.int IntKind.u64 ↑ahead, Value.bool false, Value.bool is, Value.int IntKind.i64 ↑loads] rfl rfl rfl rfl rfl ?_
      intro Wa9 ga10 ega10 ra11 za12 ba8
      replace q := q.trans (ba8.mono q.size)
      have la21 := ra11.lt
      refine LL.alloc ([Value.int IntKind.i64 0, Value.int IntKind.i64 0, Value.int IntKind.i64 0, Value.int IntKind.i64 0, Value.int IntKind.u64 0, Value.int IntKind.u64 0, Value.int IntKind.u64 0, Value.bool false, Value.bool false, Value.int IntKind.i64 0]) rfl rfl rfl rfl rfl ?_
      intro Wa23 ga24 ega24 ra25 za26 ba22
      replace ra11 := ra11.up ba22
      replace ba8 := ba8.trans (ba22.mono ba8.size)
      replace q := q.trans (ba22.mono q.size)
      refine LL.nilS ?_
      refine CC.seq ?_
      refine CC.seq ?_
      refine CC.region ?_
      refine LL.val (R.move rfl rfl) rfl rfl rfl ?_
      refine LL.val (R.move rfl rfl) rfl rfl rfl ?_
      refine LL.val (R.field rfl rfl (I.fld rfl)) rfl rfl rfl ?_
      refine LL.val (R.load rfl rfl (I.ld1 rfl (RowL.cell ra11 rfl))) rfl rfl rfl ?_
      refine LL.val (R.neT rfl rfl rfl (by omega)) rfl rfl rfl ?_
      refine LL.val (R.pick rfl rfl rfl) rfl rfl rfl ?_
      refine LL.val (R.move rfl rfl) rfl rfl rfl ?_
      refine LL.val (R.field rfl rfl (I.fld rfl)) rfl rfl rfl ?_
      refine LL.val (R.load rfl rfl (I.ld1 rfl (RowL.cell ra11 rfl))) rfl rfl rfl ?_
      refine LL.val (R.field rfl rfl (I.fld rfl)) rfl rfl rfl ?_
      refine LL.val (R.load rfl rfl (I.ld1 rfl (RowL.cell ra11 rfl))) rfl rfl rfl ?_
      refine LL.val (R.neF rfl rfl rfl (by omega)) rfl rfl rfl ?_
      refine LL.val (R.pick rfl rfl rfl) rfl rfl rfl ?_
      refine LL.nilS ?_
      refine CC.no rfl ?_
      refine CC.skip ?_
      refine EE.thenN ?_
      refine CC.seq ?_
      refine CC.seq ?_
      refine CC.region ?_
      refine LL.val (R.field rfl rfl (I.fld rfl)) rfl rfl rfl ?_
      refine LL.val (R.load rfl rfl (I.ld1 rfl (RowL.cell ra11 rfl))) rfl rfl rfl ?_
      refine LL.val (R.eqT rfl rfl rfl (by omega)) rfl rfl rfl ?_
      refine LL.val (R.move rfl rfl) rfl rfl rfl ?_
      refine LL.val (R.field rfl rfl (I.fld rfl)) rfl rfl rfl ?_
      refine LL.val (R.load rfl rfl (I.ld1 rfl (RowL.cell ra11 rfl))) rfl rfl rfl ?_
      refine LL.val (R.eqF rfl rfl rfl (by omega)) rfl rfl rfl ?_
      refine LL.val (R.pick rfl rfl rfl) rfl rfl rfl ?_
      refine LL.nilS ?_
      refine CC.no rfl ?_
      refine CC.skip ?_
      refine EE.thenN ?_
      refine CC.seq ?_
      refine CC.region ?_
      refine LL.val (R.load rfl rfl (I.ldNc (vs := [Value.int IntKind.i64 1, Value.int IntKind.i64 ↑slots, Value.int IntKind.i64 ↑slot, Value.int IntKind.i64 st, Value.int IntKind.u64 ↑key, Value.int IntKind.u64 ↑ptr, Value.int IntKind.u64 ↑ahead, Value.bool false, Value.bool is, Value.int IntKind.i64 ↑loads]) (RowL.cells ra11 rfl) (by rfl) (by rfl))) rfl rfl rfl ?_
      have la229 := ra25.lt
      have la230 := ra11.lt
      (refine LL.call (R.call rfl rfl rfl) rfl rfl rfl (goes_upF hs hS hl) ?_; rintro e Wa228 ⟨rfl, ba225⟩; refine ⟨_, rfl, ?_⟩)
      have zba225 := ba225.size
      replace ra25 := ra25.up ba225
      replace ba22 := ba22.trans (ba225.mono ba22.size)
      replace ra11 := ra11.up ba225
      replace ba8 := ba8.trans (ba225.mono ba8.size)
      replace q := q.trans (ba225.mono q.size)
      refine LL.storeN (vs := [Value.int IntKind.i64 1, Value.int IntKind.i64 ↑slots, Value.int IntKind.i64 ↑(slot + 1), Value.int IntKind.i64 0, Value.int IntKind.u64 ↑key, Value.int IntKind.u64 ↑ptr, Value.int IntKind.u64 ↑ahead, Value.bool false, Value.bool is, Value.int IntKind.i64 ↑loads]) rfl rfl rfl rfl ra25 (by exact Nat.le_of_ble_eq_true rfl) (ones_of rfl) rfl rfl ?_
      intro Wa244 ra245 ba243 za246
      have hlba243 := ra25.lt
      replace ra245 : RowL Wa244 _ 33 [Value.int IntKind.i64 1, Value.int IntKind.i64 ↑slots, Value.int IntKind.i64 ↑(slot + 1), Value.int IntKind.i64 0, Value.int IntKind.u64 ↑key, Value.int IntKind.u64 ↑ptr, Value.int IntKind.u64 ↑ahead, Value.bool false, Value.bool is, Value.int IntKind.i64 ↑loads] := ra245
      clear ra25
      replace ba22 := ba22.grown ba243 ba22.size (by rintro k ⟨⟩; omega)
      replace ra11 := ra11.gr ba243 (by have := ra11.lt; omega)
      replace ba8 := ba8.grown ba243 ba8.size (by rintro k ⟨⟩; omega)
      replace q := q.grown ba243 q.size (by rintro k ⟨⟩; omega)
      have ra25 := ra245
      clear ra245
      refine LL.nilS ?_
      refine CC.ret ?_
      refine EE.retC rfl rfl (lvNc (RowL.cells0 (by assumption)) (by rfl) (by rfl)) ?_
      exact ⟨rfl, q⟩
theorem ended_dnT (b : Bool) {slots slot key ptr ahead loads : Nat} {is : Bool} {st : Int} {w : World} (hs : slot < slots) (hS : slots ≤ 28) (h : ¬ (b = true ∧ ptr ≠ 0 ∧ ptr ≠ ahead)) (hl : slot = 0) : Calls Try.prog 41 #[.agg #[.int .i64 2, .int .i64 (slots : Int), .int .i64 (slot : Int), .int .i64 st, .int .u64 (key : Int), .int .u64 (ptr : Int), .int .u64 (ahead : Int), .bool false, .bool is, .int .i64 (loads : Int)], .bool b] w fun e w' => e = .returned (.agg #[.int .i64 2, .int .i64 (slots : Int), .int .i64 (-1), .int .i64 0, .int .u64 (key : Int), .int .u64 (ptr : Int), .int .u64 (ahead : Int), .bool true, .bool is, .int .i64 (loads : Int)]) ∧ Below w.heap.size w w' := by
  have q := Below.refl w.heap.size w
  cases b with
  | false =>
    clear h
    refine X.fn Try.func41 rfl (n := 33) rfl rfl ?_
    refine CC.seq ?_
    refine CC.region ?_
    refine LL.box [Value.int IntKind.i64 2, Value.int IntKind.i64 ↑slots, Value.int IntKind.i64 ↑slot, Value.int IntKind.i64 st, Value.int IntKind.u64 ↑key, Value.int IntKind.u64 ↑ptr, Value.int IntKind.u64 ↑ahead, Value.bool false, Value.bool is, Value.int IntKind.i64 ↑loads] rfl rfl rfl rfl rfl ?_
    intro W9 g10 eg10 r11 z12 b8
    replace q := q.trans (b8.mono q.size)
    have l21 := r11.lt
    refine LL.alloc ([Value.int IntKind.i64 0, Value.int IntKind.i64 0, Value.int IntKind.i64 0, Value.int IntKind.i64 0, Value.int IntKind.u64 0, Value.int IntKind.u64 0, Value.int IntKind.u64 0, Value.bool false, Value.bool false, Value.int IntKind.i64 0]) rfl rfl rfl rfl rfl ?_
    intro W23 g24 eg24 r25 z26 b22
    replace r11 := r11.up b22
    replace b8 := b8.trans (b22.mono b8.size)
    replace q := q.trans (b22.mono q.size)
    refine LL.nilS ?_
    refine CC.seq ?_
    refine CC.seq ?_
    refine CC.region ?_
    refine LL.val (R.move rfl rfl) rfl rfl rfl ?_
    refine LL.val (R.move rfl rfl) rfl rfl rfl ?_
    refine LL.skip rfl rfl ?_
    refine LL.skip rfl rfl ?_
    refine LL.skip rfl rfl ?_
    refine LL.val (R.pick rfl rfl rfl) rfl rfl rfl ?_
    refine LL.val (R.move rfl rfl) rfl rfl rfl ?_
    refine LL.skip rfl rfl ?_
    refine LL.skip rfl rfl ?_
    refine LL.skip rfl rfl ?_
    refine LL.skip rfl rfl ?_
    refine LL.skip rfl rfl ?_
    refine LL.val (R.pick rfl rfl rfl) rfl rfl rfl ?_
    refine LL.nilS ?_
    refine CC.no rfl ?_
    refine CC.skip ?_
    refine EE.thenN ?_
    refine CC.seq ?_
    refine CC.seq ?_
    refine CC.region ?_
    refine LL.val (R.field rfl rfl (I.fld rfl)) rfl rfl rfl ?_
    refine LL.val (R.load rfl rfl (I.ld1 rfl (RowL.cell r11 rfl))) rfl rfl rfl ?_
    refine LL.val (R.eqF rfl rfl rfl (by omega)) rfl rfl rfl ?_
    refine LL.val (R.move rfl rfl) rfl rfl rfl ?_
    refine LL.skip rfl rfl ?_
    refine LL.skip rfl rfl ?_
    refine LL.skip rfl rfl ?_
    refine LL.val (R.pick rfl rfl rfl) rfl rfl rfl ?_
    refine LL.nilS ?_
    refine CC.no rfl ?_
    refine CC.skip ?_
    refine EE.thenN ?_
    refine CC.seq ?_
    refine CC.region ?_
    refine LL.val (R.load rfl rfl (I.ldNc (vs := [Value.int IntKind.i64 2, Value.int IntKind.i64 ↑slots, Value.int IntKind.i64 ↑slot, Value.int IntKind.i64 st, Value.int IntKind.u64 ↑key, Value.int IntKind.u64 ↑ptr, Value.int IntKind.u64 ↑ahead, Value.bool false, Value.bool is, Value.int IntKind.i64 ↑loads]) (RowL.cells r11 rfl) (by rfl) (by rfl))) rfl rfl rfl ?_
    have l130 := r25.lt
    have l131 := r11.lt
    (refine LL.call (R.call rfl rfl rfl) rfl rfl rfl (goes_dnT hs hS hl) ?_; rintro e W129 ⟨rfl, b126⟩; refine ⟨_, rfl, ?_⟩)
    have zb126 := b126.size
    replace r25 := r25.up b126
    replace b22 := b22.trans (b126.mono b22.size)
    replace r11 := r11.up b126
    replace b8 := b8.trans (b126.mono b8.size)
    replace q := q.trans (b126.mono q.size)
    refine LL.storeN (vs := [Value.int IntKind.i64 2, Value.int IntKind.i64 ↑slots, Value.int IntKind.i64 (-1), Value.int IntKind.i64 0, Value.int IntKind.u64 ↑key, Value.int IntKind.u64 ↑ptr, Value.int IntKind.u64 ↑ahead, Value.bool true, Value.bool is, Value.int IntKind.i64 ↑loads]) rfl rfl rfl rfl r25 (by exact Nat.le_of_ble_eq_true rfl) (ones_of rfl) rfl rfl ?_
    intro W145 r146 b144 z147
    have hlb144 := r25.lt
    replace r146 : RowL W145 _ 33 [Value.int IntKind.i64 2, Value.int IntKind.i64 ↑slots, Value.int IntKind.i64 (-1), Value.int IntKind.i64 0, Value.int IntKind.u64 ↑key, Value.int IntKind.u64 ↑ptr, Value.int IntKind.u64 ↑ahead, Value.bool true, Value.bool is, Value.int IntKind.i64 ↑loads] := r146
    clear r25
    replace b22 := b22.grown b144 b22.size (by rintro k ⟨⟩; omega)
    replace r11 := r11.gr b144 (by have := r11.lt; omega)
    replace b8 := b8.grown b144 b8.size (by rintro k ⟨⟩; omega)
    replace q := q.grown b144 q.size (by rintro k ⟨⟩; omega)
    have r25 := r146
    clear r146
    refine LL.nilS ?_
    refine CC.ret ?_
    refine EE.retC rfl rfl (lvNc (RowL.cells0 (by assumption)) (by rfl) (by rfl)) ?_
    exact ⟨rfl, q⟩
  | true =>
    by_cases h1 : ptr = 0
    · clear h
      refine X.fn Try.func41 rfl (n := 33) rfl rfl ?_
      refine CC.seq ?_
      refine CC.region ?_
      refine LL.box [Value.int IntKind.i64 2, Value.int IntKind.i64 ↑slots, Value.int IntKind.i64 ↑slot, Value.int IntKind.i64 st, Value.int IntKind.u64 ↑key, Value.int IntKind.u64 ↑ptr, Value.int IntKind.u64 ↑ahead, Value.bool false, Value.bool is, Value.int IntKind.i64 ↑loads] rfl rfl rfl rfl rfl ?_
      intro Wa9 ga10 ega10 ra11 za12 ba8
      replace q := q.trans (ba8.mono q.size)
      have la21 := ra11.lt
      refine LL.alloc ([Value.int IntKind.i64 0, Value.int IntKind.i64 0, Value.int IntKind.i64 0, Value.int IntKind.i64 0, Value.int IntKind.u64 0, Value.int IntKind.u64 0, Value.int IntKind.u64 0, Value.bool false, Value.bool false, Value.int IntKind.i64 0]) rfl rfl rfl rfl rfl ?_
      intro Wa23 ga24 ega24 ra25 za26 ba22
      replace ra11 := ra11.up ba22
      replace ba8 := ba8.trans (ba22.mono ba8.size)
      replace q := q.trans (ba22.mono q.size)
      refine LL.nilS ?_
      refine CC.seq ?_
      refine CC.seq ?_
      refine CC.region ?_
      refine LL.val (R.move rfl rfl) rfl rfl rfl ?_
      refine LL.val (R.move rfl rfl) rfl rfl rfl ?_
      refine LL.val (R.field rfl rfl (I.fld rfl)) rfl rfl rfl ?_
      refine LL.val (R.load rfl rfl (I.ld1 rfl (RowL.cell ra11 rfl))) rfl rfl rfl ?_
      refine LL.val (R.neF rfl rfl rfl (by omega)) rfl rfl rfl ?_
      refine LL.val (R.pick rfl rfl rfl) rfl rfl rfl ?_
      refine LL.val (R.move rfl rfl) rfl rfl rfl ?_
      refine LL.skip rfl rfl ?_
      refine LL.skip rfl rfl ?_
      refine LL.skip rfl rfl ?_
      refine LL.skip rfl rfl ?_
      refine LL.skip rfl rfl ?_
      refine LL.val (R.pick rfl rfl rfl) rfl rfl rfl ?_
      refine LL.nilS ?_
      refine CC.no rfl ?_
      refine CC.skip ?_
      refine EE.thenN ?_
      refine CC.seq ?_
      refine CC.seq ?_
      refine CC.region ?_
      refine LL.val (R.field rfl rfl (I.fld rfl)) rfl rfl rfl ?_
      refine LL.val (R.load rfl rfl (I.ld1 rfl (RowL.cell ra11 rfl))) rfl rfl rfl ?_
      refine LL.val (R.eqF rfl rfl rfl (by omega)) rfl rfl rfl ?_
      refine LL.val (R.move rfl rfl) rfl rfl rfl ?_
      refine LL.skip rfl rfl ?_
      refine LL.skip rfl rfl ?_
      refine LL.skip rfl rfl ?_
      refine LL.val (R.pick rfl rfl rfl) rfl rfl rfl ?_
      refine LL.nilS ?_
      refine CC.no rfl ?_
      refine CC.skip ?_
      refine EE.thenN ?_
      refine CC.seq ?_
      refine CC.region ?_
      refine LL.val (R.load rfl rfl (I.ldNc (vs := [Value.int IntKind.i64 2, Value.int IntKind.i64 ↑slots, Value.int IntKind.i64 ↑slot, Value.int IntKind.i64 st, Value.int IntKind.u64 ↑key, Value.int IntKind.u64 ↑ptr, Value.int IntKind.u64 ↑ahead, Value.bool false, Value.bool is, Value.int IntKind.i64 ↑loads]) (RowL.cells ra11 rfl) (by rfl) (by rfl))) rfl rfl rfl ?_
      have la157 := ra25.lt
      have la158 := ra11.lt
      (refine LL.call (R.call rfl rfl rfl) rfl rfl rfl (goes_dnT hs hS hl) ?_; rintro e Wa156 ⟨rfl, ba153⟩; refine ⟨_, rfl, ?_⟩)
      have zba153 := ba153.size
      replace ra25 := ra25.up ba153
      replace ba22 := ba22.trans (ba153.mono ba22.size)
      replace ra11 := ra11.up ba153
      replace ba8 := ba8.trans (ba153.mono ba8.size)
      replace q := q.trans (ba153.mono q.size)
      refine LL.storeN (vs := [Value.int IntKind.i64 2, Value.int IntKind.i64 ↑slots, Value.int IntKind.i64 (-1), Value.int IntKind.i64 0, Value.int IntKind.u64 ↑key, Value.int IntKind.u64 ↑ptr, Value.int IntKind.u64 ↑ahead, Value.bool true, Value.bool is, Value.int IntKind.i64 ↑loads]) rfl rfl rfl rfl ra25 (by exact Nat.le_of_ble_eq_true rfl) (ones_of rfl) rfl rfl ?_
      intro Wa172 ra173 ba171 za174
      have hlba171 := ra25.lt
      replace ra173 : RowL Wa172 _ 33 [Value.int IntKind.i64 2, Value.int IntKind.i64 ↑slots, Value.int IntKind.i64 (-1), Value.int IntKind.i64 0, Value.int IntKind.u64 ↑key, Value.int IntKind.u64 ↑ptr, Value.int IntKind.u64 ↑ahead, Value.bool true, Value.bool is, Value.int IntKind.i64 ↑loads] := ra173
      clear ra25
      replace ba22 := ba22.grown ba171 ba22.size (by rintro k ⟨⟩; omega)
      replace ra11 := ra11.gr ba171 (by have := ra11.lt; omega)
      replace ba8 := ba8.grown ba171 ba8.size (by rintro k ⟨⟩; omega)
      replace q := q.grown ba171 q.size (by rintro k ⟨⟩; omega)
      have ra25 := ra173
      clear ra173
      refine LL.nilS ?_
      refine CC.ret ?_
      refine EE.retC rfl rfl (lvNc (RowL.cells0 (by assumption)) (by rfl) (by rfl)) ?_
      exact ⟨rfl, q⟩
    · have h2 : ptr = ahead := Decidable.byContradiction fun h2 => h ⟨rfl, h1, h2⟩
      clear h
      refine X.fn Try.func41 rfl (n := 33) rfl rfl ?_
      refine CC.seq ?_
      refine CC.region ?_
      refine LL.box [Value.int IntKind.i64 2, Value.int IntKind.i64 ↑slots, Value.int IntKind.i64 ↑slot, Value.int IntKind.i64 st, Value.int IntKind.u64 ↑key, Value.int IntKind.u64 ↑ptr, Value.int IntKind.u64 ↑ahead, Value.bool false, Value.bool is, Value.int IntKind.i64 ↑loads] rfl rfl rfl rfl rfl ?_
      intro Wb9 gb10 egb10 rb11 zb12 bb8
      replace q := q.trans (bb8.mono q.size)
      have lb21 := rb11.lt
      refine LL.alloc ([Value.int IntKind.i64 0, Value.int IntKind.i64 0, Value.int IntKind.i64 0, Value.int IntKind.i64 0, Value.int IntKind.u64 0, Value.int IntKind.u64 0, Value.int IntKind.u64 0, Value.bool false, Value.bool false, Value.int IntKind.i64 0]) rfl rfl rfl rfl rfl ?_
      intro Wb23 gb24 egb24 rb25 zb26 bb22
      replace rb11 := rb11.up bb22
      replace bb8 := bb8.trans (bb22.mono bb8.size)
      replace q := q.trans (bb22.mono q.size)
      refine LL.nilS ?_
      refine CC.seq ?_
      refine CC.seq ?_
      refine CC.region ?_
      refine LL.val (R.move rfl rfl) rfl rfl rfl ?_
      refine LL.val (R.move rfl rfl) rfl rfl rfl ?_
      refine LL.val (R.field rfl rfl (I.fld rfl)) rfl rfl rfl ?_
      refine LL.val (R.load rfl rfl (I.ld1 rfl (RowL.cell rb11 rfl))) rfl rfl rfl ?_
      refine LL.val (R.neT rfl rfl rfl (by omega)) rfl rfl rfl ?_
      refine LL.val (R.pick rfl rfl rfl) rfl rfl rfl ?_
      refine LL.val (R.move rfl rfl) rfl rfl rfl ?_
      refine LL.val (R.field rfl rfl (I.fld rfl)) rfl rfl rfl ?_
      refine LL.val (R.load rfl rfl (I.ld1 rfl (RowL.cell rb11 rfl))) rfl rfl rfl ?_
      refine LL.val (R.field rfl rfl (I.fld rfl)) rfl rfl rfl ?_
      refine LL.val (R.load rfl rfl (I.ld1 rfl (RowL.cell rb11 rfl))) rfl rfl rfl ?_
      refine LL.val (R.neF rfl rfl rfl (by omega)) rfl rfl rfl ?_
      refine LL.val (R.pick rfl rfl rfl) rfl rfl rfl ?_
      refine LL.nilS ?_
      refine CC.no rfl ?_
      refine CC.skip ?_
      refine EE.thenN ?_
      refine CC.seq ?_
      refine CC.seq ?_
      refine CC.region ?_
      refine LL.val (R.field rfl rfl (I.fld rfl)) rfl rfl rfl ?_
      refine LL.val (R.load rfl rfl (I.ld1 rfl (RowL.cell rb11 rfl))) rfl rfl rfl ?_
      refine LL.val (R.eqF rfl rfl rfl (by omega)) rfl rfl rfl ?_
      refine LL.val (R.move rfl rfl) rfl rfl rfl ?_
      refine LL.skip rfl rfl ?_
      refine LL.skip rfl rfl ?_
      refine LL.skip rfl rfl ?_
      refine LL.val (R.pick rfl rfl rfl) rfl rfl rfl ?_
      refine LL.nilS ?_
      refine CC.no rfl ?_
      refine CC.skip ?_
      refine EE.thenN ?_
      refine CC.seq ?_
      refine CC.region ?_
      refine LL.val (R.load rfl rfl (I.ldNc (vs := [Value.int IntKind.i64 2, Value.int IntKind.i64 ↑slots, Value.int IntKind.i64 ↑slot, Value.int IntKind.i64 st, Value.int IntKind.u64 ↑key, Value.int IntKind.u64 ↑ptr, Value.int IntKind.u64 ↑ahead, Value.bool false, Value.bool is, Value.int IntKind.i64 ↑loads]) (RowL.cells rb11 rfl) (by rfl) (by rfl))) rfl rfl rfl ?_
      have lb202 := rb25.lt
      have lb203 := rb11.lt
      (refine LL.call (R.call rfl rfl rfl) rfl rfl rfl (goes_dnT hs hS hl) ?_; rintro e Wb201 ⟨rfl, bb198⟩; refine ⟨_, rfl, ?_⟩)
      have zbb198 := bb198.size
      replace rb25 := rb25.up bb198
      replace bb22 := bb22.trans (bb198.mono bb22.size)
      replace rb11 := rb11.up bb198
      replace bb8 := bb8.trans (bb198.mono bb8.size)
      replace q := q.trans (bb198.mono q.size)
      refine LL.storeN (vs := [Value.int IntKind.i64 2, Value.int IntKind.i64 ↑slots, Value.int IntKind.i64 (-1), Value.int IntKind.i64 0, Value.int IntKind.u64 ↑key, Value.int IntKind.u64 ↑ptr, Value.int IntKind.u64 ↑ahead, Value.bool true, Value.bool is, Value.int IntKind.i64 ↑loads]) rfl rfl rfl rfl rb25 (by exact Nat.le_of_ble_eq_true rfl) (ones_of rfl) rfl rfl ?_
      intro Wb217 rb218 bb216 zb219
      have hlbb216 := rb25.lt
      replace rb218 : RowL Wb217 _ 33 [Value.int IntKind.i64 2, Value.int IntKind.i64 ↑slots, Value.int IntKind.i64 (-1), Value.int IntKind.i64 0, Value.int IntKind.u64 ↑key, Value.int IntKind.u64 ↑ptr, Value.int IntKind.u64 ↑ahead, Value.bool true, Value.bool is, Value.int IntKind.i64 ↑loads] := rb218
      clear rb25
      replace bb22 := bb22.grown bb216 bb22.size (by rintro k ⟨⟩; omega)
      replace rb11 := rb11.gr bb216 (by have := rb11.lt; omega)
      replace bb8 := bb8.grown bb216 bb8.size (by rintro k ⟨⟩; omega)
      replace q := q.grown bb216 q.size (by rintro k ⟨⟩; omega)
      have rb25 := rb218
      clear rb218
      refine LL.nilS ?_
      refine CC.ret ?_
      refine EE.retC rfl rfl (lvNc (RowL.cells0 (by assumption)) (by rfl) (by rfl)) ?_
      exact ⟨rfl, q⟩
theorem ended_dnF (b : Bool) {slots slot key ptr ahead loads : Nat} {is : Bool} {st : Int} {w : World} (hs : slot < slots) (hS : slots ≤ 28) (h : ¬ (b = true ∧ ptr ≠ 0 ∧ ptr ≠ ahead)) (hl : 0 < slot) : Calls Try.prog 41 #[.agg #[.int .i64 2, .int .i64 (slots : Int), .int .i64 (slot : Int), .int .i64 st, .int .u64 (key : Int), .int .u64 (ptr : Int), .int .u64 (ahead : Int), .bool false, .bool is, .int .i64 (loads : Int)], .bool b] w fun e w' => e = .returned (.agg #[.int .i64 2, .int .i64 (slots : Int), .int .i64 ((slot - 1 : Nat) : Int), .int .i64 0, .int .u64 (key : Int), .int .u64 (ptr : Int), .int .u64 (ahead : Int), .bool false, .bool is, .int .i64 (loads : Int)]) ∧ Below w.heap.size w w' := by
  have q := Below.refl w.heap.size w
  cases b with
  | false =>
    clear h
    refine X.fn Try.func41 rfl (n := 33) rfl rfl ?_
    refine CC.seq ?_
    refine CC.region ?_
    refine LL.box [Value.int IntKind.i64 2, Value.int IntKind.i64 ↑slots, Value.int IntKind.i64 ↑slot, Value.int IntKind.i64 st, Value.int IntKind.u64 ↑key, Value.int IntKind.u64 ↑ptr, Value.int IntKind.u64 ↑ahead, Value.bool false, Value.bool is, Value.int IntKind.i64 ↑loads] rfl rfl rfl rfl rfl ?_
    intro W9 g10 eg10 r11 z12 b8
    replace q := q.trans (b8.mono q.size)
    have l21 := r11.lt
    refine LL.alloc ([Value.int IntKind.i64 0, Value.int IntKind.i64 0, Value.int IntKind.i64 0, Value.int IntKind.i64 0, Value.int IntKind.u64 0, Value.int IntKind.u64 0, Value.int IntKind.u64 0, Value.bool false, Value.bool false, Value.int IntKind.i64 0]) rfl rfl rfl rfl rfl ?_
    intro W23 g24 eg24 r25 z26 b22
    replace r11 := r11.up b22
    replace b8 := b8.trans (b22.mono b8.size)
    replace q := q.trans (b22.mono q.size)
    refine LL.nilS ?_
    refine CC.seq ?_
    refine CC.seq ?_
    refine CC.region ?_
    refine LL.val (R.move rfl rfl) rfl rfl rfl ?_
    refine LL.val (R.move rfl rfl) rfl rfl rfl ?_
    refine LL.skip rfl rfl ?_
    refine LL.skip rfl rfl ?_
    refine LL.skip rfl rfl ?_
    refine LL.val (R.pick rfl rfl rfl) rfl rfl rfl ?_
    refine LL.val (R.move rfl rfl) rfl rfl rfl ?_
    refine LL.skip rfl rfl ?_
    refine LL.skip rfl rfl ?_
    refine LL.skip rfl rfl ?_
    refine LL.skip rfl rfl ?_
    refine LL.skip rfl rfl ?_
    refine LL.val (R.pick rfl rfl rfl) rfl rfl rfl ?_
    refine LL.nilS ?_
    refine CC.no rfl ?_
    refine CC.skip ?_
    refine EE.thenN ?_
    refine CC.seq ?_
    refine CC.seq ?_
    refine CC.region ?_
    refine LL.val (R.field rfl rfl (I.fld rfl)) rfl rfl rfl ?_
    refine LL.val (R.load rfl rfl (I.ld1 rfl (RowL.cell r11 rfl))) rfl rfl rfl ?_
    refine LL.val (R.eqF rfl rfl rfl (by omega)) rfl rfl rfl ?_
    refine LL.val (R.move rfl rfl) rfl rfl rfl ?_
    refine LL.skip rfl rfl ?_
    refine LL.skip rfl rfl ?_
    refine LL.skip rfl rfl ?_
    refine LL.val (R.pick rfl rfl rfl) rfl rfl rfl ?_
    refine LL.nilS ?_
    refine CC.no rfl ?_
    refine CC.skip ?_
    refine EE.thenN ?_
    refine CC.seq ?_
    refine CC.region ?_
    refine LL.val (R.load rfl rfl (I.ldNc (vs := [Value.int IntKind.i64 2, Value.int IntKind.i64 ↑slots, Value.int IntKind.i64 ↑slot, Value.int IntKind.i64 st, Value.int IntKind.u64 ↑key, Value.int IntKind.u64 ↑ptr, Value.int IntKind.u64 ↑ahead, Value.bool false, Value.bool is, Value.int IntKind.i64 ↑loads]) (RowL.cells r11 rfl) (by rfl) (by rfl))) rfl rfl rfl ?_
    have l130 := r25.lt
    have l131 := r11.lt
    (refine LL.call (R.call rfl rfl rfl) rfl rfl rfl (goes_dnF hs hS hl) ?_; rintro e W129 ⟨rfl, b126⟩; refine ⟨_, rfl, ?_⟩)
    have zb126 := b126.size
    replace r25 := r25.up b126
    replace b22 := b22.trans (b126.mono b22.size)
    replace r11 := r11.up b126
    replace b8 := b8.trans (b126.mono b8.size)
    replace q := q.trans (b126.mono q.size)
    refine LL.storeN (vs := [Value.int IntKind.i64 2, Value.int IntKind.i64 ↑slots, Value.int IntKind.i64 ↑(slot - 1), Value.int IntKind.i64 0, Value.int IntKind.u64 ↑key, Value.int IntKind.u64 ↑ptr, Value.int IntKind.u64 ↑ahead, Value.bool false, Value.bool is, Value.int IntKind.i64 ↑loads]) rfl rfl rfl rfl r25 (by exact Nat.le_of_ble_eq_true rfl) (ones_of rfl) rfl rfl ?_
    intro W145 r146 b144 z147
    have hlb144 := r25.lt
    replace r146 : RowL W145 _ 33 [Value.int IntKind.i64 2, Value.int IntKind.i64 ↑slots, Value.int IntKind.i64 ↑(slot - 1), Value.int IntKind.i64 0, Value.int IntKind.u64 ↑key, Value.int IntKind.u64 ↑ptr, Value.int IntKind.u64 ↑ahead, Value.bool false, Value.bool is, Value.int IntKind.i64 ↑loads] := r146
    clear r25
    replace b22 := b22.grown b144 b22.size (by rintro k ⟨⟩; omega)
    replace r11 := r11.gr b144 (by have := r11.lt; omega)
    replace b8 := b8.grown b144 b8.size (by rintro k ⟨⟩; omega)
    replace q := q.grown b144 q.size (by rintro k ⟨⟩; omega)
    have r25 := r146
    clear r146
    refine LL.nilS ?_
    refine CC.ret ?_
    refine EE.retC rfl rfl (lvNc (RowL.cells0 (by assumption)) (by rfl) (by rfl)) ?_
    exact ⟨rfl, q⟩
  | true =>
    by_cases h1 : ptr = 0
    · clear h
      refine X.fn Try.func41 rfl (n := 33) rfl rfl ?_
      refine CC.seq ?_
      refine CC.region ?_
      refine LL.box [Value.int IntKind.i64 2, Value.int IntKind.i64 ↑slots, Value.int IntKind.i64 ↑slot, Value.int IntKind.i64 st, Value.int IntKind.u64 ↑key, Value.int IntKind.u64 ↑ptr, Value.int IntKind.u64 ↑ahead, Value.bool false, Value.bool is, Value.int IntKind.i64 ↑loads] rfl rfl rfl rfl rfl ?_
      intro Wa9 ga10 ega10 ra11 za12 ba8
      replace q := q.trans (ba8.mono q.size)
      have la21 := ra11.lt
      refine LL.alloc ([Value.int IntKind.i64 0, Value.int IntKind.i64 0, Value.int IntKind.i64 0, Value.int IntKind.i64 0, Value.int IntKind.u64 0, Value.int IntKind.u64 0, Value.int IntKind.u64 0, Value.bool false, Value.bool false, Value.int IntKind.i64 0]) rfl rfl rfl rfl rfl ?_
      intro Wa23 ga24 ega24 ra25 za26 ba22
      replace ra11 := ra11.up ba22
      replace ba8 := ba8.trans (ba22.mono ba8.size)
      replace q := q.trans (ba22.mono q.size)
      refine LL.nilS ?_
      refine CC.seq ?_
      refine CC.seq ?_
      refine CC.region ?_
      refine LL.val (R.move rfl rfl) rfl rfl rfl ?_
      refine LL.val (R.move rfl rfl) rfl rfl rfl ?_
      refine LL.val (R.field rfl rfl (I.fld rfl)) rfl rfl rfl ?_
      refine LL.val (R.load rfl rfl (I.ld1 rfl (RowL.cell ra11 rfl))) rfl rfl rfl ?_
      refine LL.val (R.neF rfl rfl rfl (by omega)) rfl rfl rfl ?_
      refine LL.val (R.pick rfl rfl rfl) rfl rfl rfl ?_
      refine LL.val (R.move rfl rfl) rfl rfl rfl ?_
      refine LL.skip rfl rfl ?_
      refine LL.skip rfl rfl ?_
      refine LL.skip rfl rfl ?_
      refine LL.skip rfl rfl ?_
      refine LL.skip rfl rfl ?_
      refine LL.val (R.pick rfl rfl rfl) rfl rfl rfl ?_
      refine LL.nilS ?_
      refine CC.no rfl ?_
      refine CC.skip ?_
      refine EE.thenN ?_
      refine CC.seq ?_
      refine CC.seq ?_
      refine CC.region ?_
      refine LL.val (R.field rfl rfl (I.fld rfl)) rfl rfl rfl ?_
      refine LL.val (R.load rfl rfl (I.ld1 rfl (RowL.cell ra11 rfl))) rfl rfl rfl ?_
      refine LL.val (R.eqF rfl rfl rfl (by omega)) rfl rfl rfl ?_
      refine LL.val (R.move rfl rfl) rfl rfl rfl ?_
      refine LL.skip rfl rfl ?_
      refine LL.skip rfl rfl ?_
      refine LL.skip rfl rfl ?_
      refine LL.val (R.pick rfl rfl rfl) rfl rfl rfl ?_
      refine LL.nilS ?_
      refine CC.no rfl ?_
      refine CC.skip ?_
      refine EE.thenN ?_
      refine CC.seq ?_
      refine CC.region ?_
      refine LL.val (R.load rfl rfl (I.ldNc (vs := [Value.int IntKind.i64 2, Value.int IntKind.i64 ↑slots, Value.int IntKind.i64 ↑slot, Value.int IntKind.i64 st, Value.int IntKind.u64 ↑key, Value.int IntKind.u64 ↑ptr, Value.int IntKind.u64 ↑ahead, Value.bool false, Value.bool is, Value.int IntKind.i64 ↑loads]) (RowL.cells ra11 rfl) (by rfl) (by rfl))) rfl rfl rfl ?_
      have la157 := ra25.lt
      have la158 := ra11.lt
      (refine LL.call (R.call rfl rfl rfl) rfl rfl rfl (goes_dnF hs hS hl) ?_; rintro e Wa156 ⟨rfl, ba153⟩; refine ⟨_, rfl, ?_⟩)
      have zba153 := ba153.size
      replace ra25 := ra25.up ba153
      replace ba22 := ba22.trans (ba153.mono ba22.size)
      replace ra11 := ra11.up ba153
      replace ba8 := ba8.trans (ba153.mono ba8.size)
      replace q := q.trans (ba153.mono q.size)
      refine LL.storeN (vs := [Value.int IntKind.i64 2, Value.int IntKind.i64 ↑slots, Value.int IntKind.i64 ↑(slot - 1), Value.int IntKind.i64 0, Value.int IntKind.u64 ↑key, Value.int IntKind.u64 ↑ptr, Value.int IntKind.u64 ↑ahead, Value.bool false, Value.bool is, Value.int IntKind.i64 ↑loads]) rfl rfl rfl rfl ra25 (by exact Nat.le_of_ble_eq_true rfl) (ones_of rfl) rfl rfl ?_
      intro Wa172 ra173 ba171 za174
      have hlba171 := ra25.lt
      replace ra173 : RowL Wa172 _ 33 [Value.int IntKind.i64 2, Value.int IntKind.i64 ↑slots, Value.int IntKind.i64 ↑(slot - 1), Value.int IntKind.i64 0, Value.int IntKind.u64 ↑key, Value.int IntKind.u64 ↑ptr, Value.int IntKind.u64 ↑ahead, Value.bool false, Value.bool is, Value.int IntKind.i64 ↑loads] := ra173
      clear ra25
      replace ba22 := ba22.grown ba171 ba22.size (by rintro k ⟨⟩; omega)
      replace ra11 := ra11.gr ba171 (by have := ra11.lt; omega)
      replace ba8 := ba8.grown ba171 ba8.size (by rintro k ⟨⟩; omega)
      replace q := q.grown ba171 q.size (by rintro k ⟨⟩; omega)
      have ra25 := ra173
      clear ra173
      refine LL.nilS ?_
      refine CC.ret ?_
      refine EE.retC rfl rfl (lvNc (RowL.cells0 (by assumption)) (by rfl) (by rfl)) ?_
      exact ⟨rfl, q⟩
    · have h2 : ptr = ahead := Decidable.byContradiction fun h2 => h ⟨rfl, h1, h2⟩
      clear h
      refine X.fn Try.func41 rfl (n := 33) rfl rfl ?_
      refine CC.seq ?_
      refine CC.region ?_
      refine LL.box [Value.int IntKind.i64 2, Value.int IntKind.i64 ↑slots, Value.int IntKind.i64 ↑slot, Value.int IntKind.i64 st, Value.int IntKind.u64 ↑key, Value.int IntKind.u64 ↑ptr, Value.int IntKind.u64 ↑ahead, Value.bool false, Value.bool is, Value.int IntKind.i64 ↑loads] rfl rfl rfl rfl rfl ?_
      intro Wb9 gb10 egb10 rb11 zb12 bb8
      replace q := q.trans (bb8.mono q.size)
      have lb21 := rb11.lt
      refine LL.alloc ([Value.int IntKind.i64 0, Value.int IntKind.i64 0, Value.int IntKind.i64 0, Value.int IntKind.i64 0, Value.int IntKind.u64 0, Value.int IntKind.u64 0, Value.int IntKind.u64 0, Value.bool false, Value.bool false, Value.int IntKind.i64 0]) rfl rfl rfl rfl rfl ?_
      intro Wb23 gb24 egb24 rb25 zb26 bb22
      replace rb11 := rb11.up bb22
      replace bb8 := bb8.trans (bb22.mono bb8.size)
      replace q := q.trans (bb22.mono q.size)
      refine LL.nilS ?_
      refine CC.seq ?_
      refine CC.seq ?_
      refine CC.region ?_
      refine LL.val (R.move rfl rfl) rfl rfl rfl ?_
      refine LL.val (R.move rfl rfl) rfl rfl rfl ?_
      refine LL.val (R.field rfl rfl (I.fld rfl)) rfl rfl rfl ?_
      refine LL.val (R.load rfl rfl (I.ld1 rfl (RowL.cell rb11 rfl))) rfl rfl rfl ?_
      refine LL.val (R.neT rfl rfl rfl (by omega)) rfl rfl rfl ?_
      refine LL.val (R.pick rfl rfl rfl) rfl rfl rfl ?_
      refine LL.val (R.move rfl rfl) rfl rfl rfl ?_
      refine LL.val (R.field rfl rfl (I.fld rfl)) rfl rfl rfl ?_
      refine LL.val (R.load rfl rfl (I.ld1 rfl (RowL.cell rb11 rfl))) rfl rfl rfl ?_
      refine LL.val (R.field rfl rfl (I.fld rfl)) rfl rfl rfl ?_
      refine LL.val (R.load rfl rfl (I.ld1 rfl (RowL.cell rb11 rfl))) rfl rfl rfl ?_
      refine LL.val (R.neF rfl rfl rfl (by omega)) rfl rfl rfl ?_
      refine LL.val (R.pick rfl rfl rfl) rfl rfl rfl ?_
      refine LL.nilS ?_
      refine CC.no rfl ?_
      refine CC.skip ?_
      refine EE.thenN ?_
      refine CC.seq ?_
      refine CC.seq ?_
      refine CC.region ?_
      refine LL.val (R.field rfl rfl (I.fld rfl)) rfl rfl rfl ?_
      refine LL.val (R.load rfl rfl (I.ld1 rfl (RowL.cell rb11 rfl))) rfl rfl rfl ?_
      refine LL.val (R.eqF rfl rfl rfl (by omega)) rfl rfl rfl ?_
      refine LL.val (R.move rfl rfl) rfl rfl rfl ?_
      refine LL.skip rfl rfl ?_
      refine LL.skip rfl rfl ?_
      refine LL.skip rfl rfl ?_
      refine LL.val (R.pick rfl rfl rfl) rfl rfl rfl ?_
      refine LL.nilS ?_
      refine CC.no rfl ?_
      refine CC.skip ?_
      refine EE.thenN ?_
      refine CC.seq ?_
      refine CC.region ?_
      refine LL.val (R.load rfl rfl (I.ldNc (vs := [Value.int IntKind.i64 2, Value.int IntKind.i64 ↑slots, Value.int IntKind.i64 ↑slot, Value.int IntKind.i64 st, Value.int IntKind.u64 ↑key, Value.int IntKind.u64 ↑ptr, Value.int IntKind.u64 ↑ahead, Value.bool false, Value.bool is, Value.int IntKind.i64 ↑loads]) (RowL.cells rb11 rfl) (by rfl) (by rfl))) rfl rfl rfl ?_
      have lb202 := rb25.lt
      have lb203 := rb11.lt
      (refine LL.call (R.call rfl rfl rfl) rfl rfl rfl (goes_dnF hs hS hl) ?_; rintro e Wb201 ⟨rfl, bb198⟩; refine ⟨_, rfl, ?_⟩)
      have zbb198 := bb198.size
      replace rb25 := rb25.up bb198
      replace bb22 := bb22.trans (bb198.mono bb22.size)
      replace rb11 := rb11.up bb198
      replace bb8 := bb8.trans (bb198.mono bb8.size)
      replace q := q.trans (bb198.mono q.size)
      refine LL.storeN (vs := [Value.int IntKind.i64 2, Value.int IntKind.i64 ↑slots, Value.int IntKind.i64 ↑(slot - 1), Value.int IntKind.i64 0, Value.int IntKind.u64 ↑key, Value.int IntKind.u64 ↑ptr, Value.int IntKind.u64 ↑ahead, Value.bool false, Value.bool is, Value.int IntKind.i64 ↑loads]) rfl rfl rfl rfl rb25 (by exact Nat.le_of_ble_eq_true rfl) (ones_of rfl) rfl rfl ?_
      intro Wb217 rb218 bb216 zb219
      have hlbb216 := rb25.lt
      replace rb218 : RowL Wb217 _ 33 [Value.int IntKind.i64 2, Value.int IntKind.i64 ↑slots, Value.int IntKind.i64 ↑(slot - 1), Value.int IntKind.i64 0, Value.int IntKind.u64 ↑key, Value.int IntKind.u64 ↑ptr, Value.int IntKind.u64 ↑ahead, Value.bool false, Value.bool is, Value.int IntKind.i64 ↑loads] := rb218
      clear rb25
      replace bb22 := bb22.grown bb216 bb22.size (by rintro k ⟨⟩; omega)
      replace rb11 := rb11.gr bb216 (by have := rb11.lt; omega)
      replace bb8 := bb8.grown bb216 bb8.size (by rintro k ⟨⟩; omega)
      replace q := q.grown bb216 q.size (by rintro k ⟨⟩; omega)
      have rb25 := rb218
      clear rb218
      refine LL.nilS ?_
      refine CC.ret ?_
      refine EE.retC rfl rfl (lvNc (RowL.cells0 (by assumption)) (by rfl) (by rfl)) ?_
      exact ⟨rfl, q⟩
theorem goesD_up {k slots slot key ptr ahead loads : Nat} {is : Bool} (hk : k ≤ 4) : goesD ⟨k, slots, slot, key, ptr, ahead, false, is, loads⟩ = ⟨0, slots, ((slot + 1 : Nat) : Int), key, ptr, ahead, decide (slots ≤ slot + 1), is, loads⟩ := by
  unfold goesD
  rw [if_pos hk]
  simp only [Dr.mk.injEq, true_and, and_true, decide_eq_decide]
  omega
theorem goesD_dn {k slots slot key ptr ahead loads : Nat} {is : Bool} (hk : 4 < k) : goesD ⟨k, slots, slot, key, ptr, ahead, false, is, loads⟩ = ⟨5, slots, (slot : Int) - 1, key, ptr, ahead, decide (slot = 0), is, loads⟩ := by
  unfold goesD
  rw [if_neg (show ¬ k ≤ 4 by omega)]
  simp only [Dr.mk.injEq, true_and, and_true, decide_eq_decide]
  omega
theorem endD_3 (b : Bool) {slots slot key ptr ahead loads : Nat} {is : Bool} {w : World} (hs : slot < slots) (hS : slots ≤ 28) : Calls Try.prog 41 #[.agg #[.int .i64 1, .int .i64 (slots : Int), .int .i64 (slot : Int), .int .i64 3, .int .u64 (key : Int), .int .u64 (ptr : Int), .int .u64 (ahead : Int), .bool false, .bool is, .int .i64 (loads : Int)], .bool b] w fun e w' => e = .returned (drA (endD ⟨3, slots, (slot : Int), key, ptr, ahead, false, is, loads⟩ b)) ∧ Below w.heap.size w w' := by
  by_cases h : b = true ∧ ptr ≠ 0 ∧ ptr ≠ ahead
  · rw [show endD ⟨3, slots, (slot : Int), key, ptr, ahead, false, is, loads⟩ b = ⟨3, slots, (slot : Int), key, ptr, ahead, true, true, loads⟩ from if_pos h]
    obtain ⟨rfl, h1, h2⟩ := h
    exact ended_F1 hs hS h1 h2
  by_cases h0 : ptr = 0
  · rw [show endD ⟨3, slots, (slot : Int), key, ptr, ahead, false, is, loads⟩ b = ⟨3, slots, (slot : Int), key, ptr, ahead, true, is, loads⟩ from (if_neg h).trans (if_pos ⟨by show 3 ≤ 4; omega, h0⟩)]
    exact ended_0 b hs hS h0
  rw [show endD ⟨3, slots, (slot : Int), key, ptr, ahead, false, is, loads⟩ b = goesD ⟨3, slots, (slot : Int), key, ptr, ahead, false, is, loads⟩ from (if_neg h).trans (if_neg fun e => h0 e.2), goesD_up (by omega)]
  by_cases hl : slot + 1 = slots
  · rw [decide_eq_true (by omega)]
    exact ended_upT b hs hS h h0 hl
  · rw [decide_eq_false (by omega)]
    exact ended_upF b hs hS h h0 (by omega)
theorem endD_4 (b : Bool) {slots slot key ptr ahead loads : Nat} {is : Bool} {w : World} (hs : slot < slots) (hS : slots ≤ 28) : Calls Try.prog 41 #[.agg #[.int .i64 1, .int .i64 (slots : Int), .int .i64 (slot : Int), .int .i64 4, .int .u64 (key : Int), .int .u64 (ptr : Int), .int .u64 (ahead : Int), .bool false, .bool is, .int .i64 (loads : Int)], .bool b] w fun e w' => e = .returned (drA (endD ⟨4, slots, (slot : Int), key, ptr, ahead, false, is, loads⟩ b)) ∧ Below w.heap.size w w' := by
  by_cases h : b = true ∧ ptr ≠ 0 ∧ ptr ≠ ahead
  · rw [show endD ⟨4, slots, (slot : Int), key, ptr, ahead, false, is, loads⟩ b = ⟨4, slots, (slot : Int), key, ptr, ahead, true, true, loads⟩ from if_pos h]
    obtain ⟨rfl, h1, h2⟩ := h
    exact ended_F1 hs hS h1 h2
  by_cases h0 : ptr = 0
  · rw [show endD ⟨4, slots, (slot : Int), key, ptr, ahead, false, is, loads⟩ b = ⟨4, slots, (slot : Int), key, ptr, ahead, true, is, loads⟩ from (if_neg h).trans (if_pos ⟨by show 4 ≤ 4; omega, h0⟩)]
    exact ended_0 b hs hS h0
  rw [show endD ⟨4, slots, (slot : Int), key, ptr, ahead, false, is, loads⟩ b = goesD ⟨4, slots, (slot : Int), key, ptr, ahead, false, is, loads⟩ from (if_neg h).trans (if_neg fun e => h0 e.2), goesD_up (by omega)]
  by_cases hl : slot + 1 = slots
  · rw [decide_eq_true (by omega)]
    exact ended_upT b hs hS h h0 hl
  · rw [decide_eq_false (by omega)]
    exact ended_upF b hs hS h h0 (by omega)
theorem endD_8 (b : Bool) {slots slot key ptr ahead loads : Nat} {is : Bool} {w : World} (hs : slot < slots) (hS : slots ≤ 28) : Calls Try.prog 41 #[.agg #[.int .i64 2, .int .i64 (slots : Int), .int .i64 (slot : Int), .int .i64 3, .int .u64 (key : Int), .int .u64 (ptr : Int), .int .u64 (ahead : Int), .bool false, .bool is, .int .i64 (loads : Int)], .bool b] w fun e w' => e = .returned (drA (endD ⟨8, slots, (slot : Int), key, ptr, ahead, false, is, loads⟩ b)) ∧ Below w.heap.size w w' := by
  by_cases h : b = true ∧ ptr ≠ 0 ∧ ptr ≠ ahead
  · rw [show endD ⟨8, slots, (slot : Int), key, ptr, ahead, false, is, loads⟩ b = ⟨8, slots, (slot : Int), key, ptr, ahead, true, true, loads⟩ from if_pos h]
    obtain ⟨rfl, h1, h2⟩ := h
    exact ended_F2 hs hS h1 h2
  rw [show endD ⟨8, slots, (slot : Int), key, ptr, ahead, false, is, loads⟩ b = goesD ⟨8, slots, (slot : Int), key, ptr, ahead, false, is, loads⟩ from (if_neg h).trans (if_neg fun e => absurd e.1 (show ¬ 8 ≤ 4 by omega)), goesD_dn (by omega)]
  by_cases hl : slot = 0
  · rw [decide_eq_true hl]
    have := ended_dnT (st := 3) b hs hS h hl (w := w) (key := key) (loads := loads) (is := is)
    subst hl
    exact this
  · rw [decide_eq_false hl, show (slot : Int) - 1 = ((slot - 1 : Nat) : Int) by omega]
    exact ended_dnF b hs hS h (by omega)
theorem goD_5 {slots slot key ptr ahead loads : Nat} {is : Bool} {w : World} (hs : slot < slots) (hS : slots ≤ 28) : Calls Try.prog 42 #[.agg #[.int .i64 2, .int .i64 (slots : Int), .int .i64 (slot : Int), .int .i64 0, .int .u64 (key : Int), .int .u64 (ptr : Int), .int .u64 (ahead : Int), .bool false, .bool is, .int .i64 (loads : Int)]] w fun e w' => e = .returned (drA (goesD ⟨5, slots, (slot : Int), key, ptr, ahead, false, is, loads⟩)) ∧ Below w.heap.size w w' := by
  rw [goesD_dn (by omega)]
  by_cases hl : slot = 0
  · rw [decide_eq_true hl]
    have := goes_dnT (st := 0) hs hS hl (w := w) (key := key) (loads := loads) (is := is) (ptr := ptr) (ahead := ahead)
    subst hl
    exact this
  · rw [decide_eq_false hl, show (slot : Int) - 1 = ((slot - 1 : Nat) : Int) by omega]
    exact goes_dnF hs hS (by omega)
theorem goD_7 {slots slot key ptr ahead loads : Nat} {is : Bool} {w : World} (hs : slot < slots) (hS : slots ≤ 28) : Calls Try.prog 42 #[.agg #[.int .i64 2, .int .i64 (slots : Int), .int .i64 (slot : Int), .int .i64 2, .int .u64 (key : Int), .int .u64 (ptr : Int), .int .u64 (ahead : Int), .bool false, .bool is, .int .i64 (loads : Int)]] w fun e w' => e = .returned (drA (goesD ⟨7, slots, (slot : Int), key, ptr, ahead, false, is, loads⟩)) ∧ Below w.heap.size w w' := by
  rw [goesD_dn (by omega)]
  by_cases hl : slot = 0
  · rw [decide_eq_true hl]
    have := goes_dnT (st := 2) hs hS hl (w := w) (key := key) (loads := loads) (is := is) (ptr := ptr) (ahead := ahead)
    subst hl
    exact this
  · rw [decide_eq_false hl, show (slot : Int) - 1 = ((slot - 1 : Nat) : Int) by omega]
    exact goes_dnF hs hS (by omega)
theorem dgive_0 (v : Nat) {slots slot key ptr ahead loads : Nat} {is : Bool} {w : World} (hs : slot < slots) (hS : slots ≤ 28) (hl : loads ≤ 1000000) : Calls Try.prog 16 #[.agg #[.int .i64 1, .int .i64 (slots : Int), .int .i64 (slot : Int), .int .i64 0, .int .u64 (key : Int), .int .u64 (ptr : Int), .int .u64 (ahead : Int), .bool false, .bool is, .int .i64 (loads : Int)], .int .u64 (v : Int)] w fun e w' => e = .returned (drA (giveD ⟨0, slots, (slot : Int), key, ptr, ahead, false, is, loads⟩ v)) ∧ Below w.heap.size w w' := by
  have q := Below.refl w.heap.size w
  by_cases hv : v = key
  · rw [show giveD ⟨0, slots, (slot : Int), key, ptr, ahead, false, is, loads⟩ v = ⟨1, slots, (slot : Int), key, ptr, ahead, false, is, loads + 1⟩ from if_pos hv]
    refine X.fn Try.func16 rfl (n := 81) rfl rfl ?_
    refine CC.seq ?_
    refine CC.region ?_
    refine LL.box [Value.int IntKind.i64 1, Value.int IntKind.i64 ↑slots, Value.int IntKind.i64 ↑slot, Value.int IntKind.i64 0, Value.int IntKind.u64 ↑key, Value.int IntKind.u64 ↑ptr, Value.int IntKind.u64 ↑ahead, Value.bool false, Value.bool is, Value.int IntKind.i64 ↑loads] rfl rfl rfl rfl rfl ?_
    intro W2 g3 eg3 r4 z5 b1
    replace q := q.trans (b1.mono q.size)
    have l6 := r4.lt
    refine LL.alloc ([Value.int IntKind.i64 0, Value.int IntKind.i64 0, Value.int IntKind.i64 0, Value.int IntKind.i64 0, Value.int IntKind.u64 0, Value.int IntKind.u64 0, Value.int IntKind.u64 0, Value.bool false, Value.bool false, Value.int IntKind.i64 0]) rfl rfl rfl rfl rfl ?_
    intro W8 g9 eg9 r10 z11 b7
    replace r4 := r4.up b7
    replace b1 := b1.trans (b7.mono b1.size)
    replace q := q.trans (b7.mono q.size)
    refine LL.nilS ?_
    refine CC.seq ?_
    refine CC.region ?_
    refine LL.val (R.field rfl rfl (I.fld rfl)) rfl rfl rfl ?_
    refine LL.val (R.load rfl rfl (I.ld1 rfl (RowL.cell r4 rfl))) rfl rfl rfl ?_
    refine LL.val (R.addNc rfl rfl rfl rfl (by omega)) rfl rfl rfl ?_
    refine LL.val (R.field rfl rfl (I.fld rfl)) rfl rfl rfl ?_
    refine LL.store rfl rfl rfl rfl r4 (by exact Nat.le_of_ble_eq_true rfl) rfl rfl rfl rfl ?_
    intro W13 r14 b12 z15
    have hlb12 := r4.lt
    replace r14 : RowL W13 _ 33 [Value.int IntKind.i64 1, Value.int IntKind.i64 ↑slots, Value.int IntKind.i64 ↑slot, Value.int IntKind.i64 0, Value.int IntKind.u64 ↑key, Value.int IntKind.u64 ↑ptr, Value.int IntKind.u64 ↑ahead, Value.bool false, Value.bool is, Value.int IntKind.i64 ↑(loads + 1)] := r14
    clear r4
    replace r10 := r10.gr b12 (by have := r10.lt; omega)
    replace b1 := b1.grown b12 b1.size (by rintro k ⟨⟩; omega)
    replace q := q.grown b12 q.size (by rintro k ⟨⟩; omega)
    have r4 := r14
    clear r14
    refine LL.nilS ?_
    refine CC.seq ?_
    refine CC.seq ?_
    refine CC.region ?_
    refine LL.val (R.field rfl rfl (I.fld rfl)) rfl rfl rfl ?_
    refine LL.val (R.load rfl rfl (I.ld1 rfl (RowL.cell r4 rfl))) rfl rfl rfl ?_
    refine LL.val (R.eqT rfl rfl rfl (by omega)) rfl rfl rfl ?_
    refine LL.nilS ?_
    refine CC.yes rfl ?_
    refine CC.seq ?_
    refine CC.seq ?_
    refine CC.region ?_
    refine LL.val (R.field rfl rfl (I.fld rfl)) rfl rfl rfl ?_
    refine LL.val (R.load rfl rfl (I.ld1 rfl (RowL.cell r4 rfl))) rfl rfl rfl ?_
    refine LL.nilS ?_
    refine CC.block ?_
    refine CC.seq ?_
    refine CC.region ?_
    refine LL.val (R.eqT rfl rfl rfl (by omega)) rfl rfl rfl ?_
    refine LL.val (R.assign rfl rfl) rfl rfl rfl ?_
    refine LL.nilS ?_
    refine CC.yes rfl ?_
    refine CC.seq ?_
    refine CC.region ?_
    refine LL.val (R.field rfl rfl (I.fld rfl)) rfl rfl rfl ?_
    refine LL.store rfl rfl rfl rfl r4 (by exact Nat.le_of_ble_eq_true rfl) rfl rfl rfl rfl ?_
    intro W17 r18 b16 z19
    have hlb16 := r4.lt
    replace r18 : RowL W17 _ 33 [Value.int IntKind.i64 1, Value.int IntKind.i64 ↑slots, Value.int IntKind.i64 ↑slot, Value.int IntKind.i64 4, Value.int IntKind.u64 ↑key, Value.int IntKind.u64 ↑ptr, Value.int IntKind.u64 ↑ahead, Value.bool false, Value.bool is, Value.int IntKind.i64 ↑(loads + 1)] := r18
    clear r4
    replace r10 := r10.gr b16 (by have := r10.lt; omega)
    replace b1 := b1.grown b16 b1.size (by rintro k ⟨⟩; omega)
    replace q := q.grown b16 q.size (by rintro k ⟨⟩; omega)
    have r4 := r18
    clear r18
    refine LL.nilS ?_
    refine CC.seq ?_
    refine CC.seq ?_
    refine CC.region ?_
    refine LL.val (R.move rfl rfl) rfl rfl rfl ?_
    refine LL.val (R.field rfl rfl (I.fld rfl)) rfl rfl rfl ?_
    refine LL.val (R.load rfl rfl (I.ld1 rfl (RowL.cell r4 rfl))) rfl rfl rfl ?_
    refine LL.val (R.eqT rfl rfl rfl (by omega)) rfl rfl rfl ?_
    refine LL.nilS ?_
    refine CC.yes rfl ?_
    refine CC.region ?_
    refine LL.val (R.field rfl rfl (I.fld rfl)) rfl rfl rfl ?_
    refine LL.store rfl rfl rfl rfl r4 (by exact Nat.le_of_ble_eq_true rfl) rfl rfl rfl rfl ?_
    intro W21 r22 b20 z23
    have hlb20 := r4.lt
    replace r22 : RowL W21 _ 33 [Value.int IntKind.i64 1, Value.int IntKind.i64 ↑slots, Value.int IntKind.i64 ↑slot, Value.int IntKind.i64 1, Value.int IntKind.u64 ↑key, Value.int IntKind.u64 ↑ptr, Value.int IntKind.u64 ↑ahead, Value.bool false, Value.bool is, Value.int IntKind.i64 ↑(loads + 1)] := r22
    clear r4
    replace r10 := r10.gr b20 (by have := r10.lt; omega)
    replace b1 := b1.grown b20 b1.size (by rintro k ⟨⟩; omega)
    replace q := q.grown b20 q.size (by rintro k ⟨⟩; omega)
    have r4 := r22
    clear r22
    refine LL.nilS ?_
    refine CC.seq ?_
    refine CC.region ?_
    refine LL.val (R.load rfl rfl (I.ldNc (vs := [Value.int IntKind.i64 1, Value.int IntKind.i64 ↑slots, Value.int IntKind.i64 ↑slot, Value.int IntKind.i64 1, Value.int IntKind.u64 ↑key, Value.int IntKind.u64 ↑ptr, Value.int IntKind.u64 ↑ahead, Value.bool false, Value.bool is, Value.int IntKind.i64 ↑(loads + 1)]) (RowL.cells r4 rfl) (by rfl) (by rfl))) rfl rfl rfl ?_
    refine LL.storeN (vs := [Value.int IntKind.i64 1, Value.int IntKind.i64 ↑slots, Value.int IntKind.i64 ↑slot, Value.int IntKind.i64 1, Value.int IntKind.u64 ↑key, Value.int IntKind.u64 ↑ptr, Value.int IntKind.u64 ↑ahead, Value.bool false, Value.bool is, Value.int IntKind.i64 ↑(loads + 1)]) rfl rfl rfl rfl r10 (by exact Nat.le_of_ble_eq_true rfl) (ones_of rfl) rfl rfl ?_
    intro W25 r26 b24 z27
    have hlb24 := r10.lt
    replace r26 : RowL W25 _ 33 [Value.int IntKind.i64 1, Value.int IntKind.i64 ↑slots, Value.int IntKind.i64 ↑slot, Value.int IntKind.i64 1, Value.int IntKind.u64 ↑key, Value.int IntKind.u64 ↑ptr, Value.int IntKind.u64 ↑ahead, Value.bool false, Value.bool is, Value.int IntKind.i64 ↑(loads + 1)] := r26
    clear r10
    replace b1 := b1.grown b24 b1.size (by rintro k ⟨⟩; omega)
    replace q := q.grown b24 q.size (by rintro k ⟨⟩; omega)
    replace r4 := r4.gr b24 (by have := r4.lt; omega)
    have r10 := r26
    clear r26
    refine LL.nilS ?_
    refine CC.ret ?_
    refine EE.inR ?_
    refine EE.thenR ?_
    refine EE.thenR ?_
    refine EE.retC rfl rfl (lvNc (RowL.cells0 (by assumption)) (by rfl) (by rfl)) ?_
    exact ⟨rfl, q⟩
  · rw [show giveD ⟨0, slots, (slot : Int), key, ptr, ahead, false, is, loads⟩ v = ⟨4, slots, (slot : Int), key, ptr, ahead, false, is, loads + 1⟩ from if_neg hv]
    refine X.fn Try.func16 rfl (n := 81) rfl rfl ?_
    refine CC.seq ?_
    refine CC.region ?_
    refine LL.box [Value.int IntKind.i64 1, Value.int IntKind.i64 ↑slots, Value.int IntKind.i64 ↑slot, Value.int IntKind.i64 0, Value.int IntKind.u64 ↑key, Value.int IntKind.u64 ↑ptr, Value.int IntKind.u64 ↑ahead, Value.bool false, Value.bool is, Value.int IntKind.i64 ↑loads] rfl rfl rfl rfl rfl ?_
    intro Wa2 ga3 ega3 ra4 za5 ba1
    replace q := q.trans (ba1.mono q.size)
    have la6 := ra4.lt
    refine LL.alloc ([Value.int IntKind.i64 0, Value.int IntKind.i64 0, Value.int IntKind.i64 0, Value.int IntKind.i64 0, Value.int IntKind.u64 0, Value.int IntKind.u64 0, Value.int IntKind.u64 0, Value.bool false, Value.bool false, Value.int IntKind.i64 0]) rfl rfl rfl rfl rfl ?_
    intro Wa8 ga9 ega9 ra10 za11 ba7
    replace ra4 := ra4.up ba7
    replace ba1 := ba1.trans (ba7.mono ba1.size)
    replace q := q.trans (ba7.mono q.size)
    refine LL.nilS ?_
    refine CC.seq ?_
    refine CC.region ?_
    refine LL.val (R.field rfl rfl (I.fld rfl)) rfl rfl rfl ?_
    refine LL.val (R.load rfl rfl (I.ld1 rfl (RowL.cell ra4 rfl))) rfl rfl rfl ?_
    refine LL.val (R.addNc rfl rfl rfl rfl (by omega)) rfl rfl rfl ?_
    refine LL.val (R.field rfl rfl (I.fld rfl)) rfl rfl rfl ?_
    refine LL.store rfl rfl rfl rfl ra4 (by exact Nat.le_of_ble_eq_true rfl) rfl rfl rfl rfl ?_
    intro Wa13 ra14 ba12 za15
    have hlba12 := ra4.lt
    replace ra14 : RowL Wa13 _ 33 [Value.int IntKind.i64 1, Value.int IntKind.i64 ↑slots, Value.int IntKind.i64 ↑slot, Value.int IntKind.i64 0, Value.int IntKind.u64 ↑key, Value.int IntKind.u64 ↑ptr, Value.int IntKind.u64 ↑ahead, Value.bool false, Value.bool is, Value.int IntKind.i64 ↑(loads + 1)] := ra14
    clear ra4
    replace ra10 := ra10.gr ba12 (by have := ra10.lt; omega)
    replace ba1 := ba1.grown ba12 ba1.size (by rintro k ⟨⟩; omega)
    replace q := q.grown ba12 q.size (by rintro k ⟨⟩; omega)
    have ra4 := ra14
    clear ra14
    refine LL.nilS ?_
    refine CC.seq ?_
    refine CC.seq ?_
    refine CC.region ?_
    refine LL.val (R.field rfl rfl (I.fld rfl)) rfl rfl rfl ?_
    refine LL.val (R.load rfl rfl (I.ld1 rfl (RowL.cell ra4 rfl))) rfl rfl rfl ?_
    refine LL.val (R.eqT rfl rfl rfl (by omega)) rfl rfl rfl ?_
    refine LL.nilS ?_
    refine CC.yes rfl ?_
    refine CC.seq ?_
    refine CC.seq ?_
    refine CC.region ?_
    refine LL.val (R.field rfl rfl (I.fld rfl)) rfl rfl rfl ?_
    refine LL.val (R.load rfl rfl (I.ld1 rfl (RowL.cell ra4 rfl))) rfl rfl rfl ?_
    refine LL.nilS ?_
    refine CC.block ?_
    refine CC.seq ?_
    refine CC.region ?_
    refine LL.val (R.eqT rfl rfl rfl (by omega)) rfl rfl rfl ?_
    refine LL.val (R.assign rfl rfl) rfl rfl rfl ?_
    refine LL.nilS ?_
    refine CC.yes rfl ?_
    refine CC.seq ?_
    refine CC.region ?_
    refine LL.val (R.field rfl rfl (I.fld rfl)) rfl rfl rfl ?_
    refine LL.store rfl rfl rfl rfl ra4 (by exact Nat.le_of_ble_eq_true rfl) rfl rfl rfl rfl ?_
    intro Wa17 ra18 ba16 za19
    have hlba16 := ra4.lt
    replace ra18 : RowL Wa17 _ 33 [Value.int IntKind.i64 1, Value.int IntKind.i64 ↑slots, Value.int IntKind.i64 ↑slot, Value.int IntKind.i64 4, Value.int IntKind.u64 ↑key, Value.int IntKind.u64 ↑ptr, Value.int IntKind.u64 ↑ahead, Value.bool false, Value.bool is, Value.int IntKind.i64 ↑(loads + 1)] := ra18
    clear ra4
    replace ra10 := ra10.gr ba16 (by have := ra10.lt; omega)
    replace ba1 := ba1.grown ba16 ba1.size (by rintro k ⟨⟩; omega)
    replace q := q.grown ba16 q.size (by rintro k ⟨⟩; omega)
    have ra4 := ra18
    clear ra18
    refine LL.nilS ?_
    refine CC.seq ?_
    refine CC.seq ?_
    refine CC.region ?_
    refine LL.val (R.move rfl rfl) rfl rfl rfl ?_
    refine LL.val (R.field rfl rfl (I.fld rfl)) rfl rfl rfl ?_
    refine LL.val (R.load rfl rfl (I.ld1 rfl (RowL.cell ra4 rfl))) rfl rfl rfl ?_
    refine LL.val (R.eqF rfl rfl rfl (by omega)) rfl rfl rfl ?_
    refine LL.nilS ?_
    refine CC.no rfl ?_
    refine CC.skip ?_
    refine EE.thenN ?_
    refine CC.seq ?_
    refine CC.region ?_
    refine LL.val (R.load rfl rfl (I.ldNc (vs := [Value.int IntKind.i64 1, Value.int IntKind.i64 ↑slots, Value.int IntKind.i64 ↑slot, Value.int IntKind.i64 4, Value.int IntKind.u64 ↑key, Value.int IntKind.u64 ↑ptr, Value.int IntKind.u64 ↑ahead, Value.bool false, Value.bool is, Value.int IntKind.i64 ↑(loads + 1)]) (RowL.cells ra4 rfl) (by rfl) (by rfl))) rfl rfl rfl ?_
    refine LL.storeN (vs := [Value.int IntKind.i64 1, Value.int IntKind.i64 ↑slots, Value.int IntKind.i64 ↑slot, Value.int IntKind.i64 4, Value.int IntKind.u64 ↑key, Value.int IntKind.u64 ↑ptr, Value.int IntKind.u64 ↑ahead, Value.bool false, Value.bool is, Value.int IntKind.i64 ↑(loads + 1)]) rfl rfl rfl rfl ra10 (by exact Nat.le_of_ble_eq_true rfl) (ones_of rfl) rfl rfl ?_
    intro Wa21 ra22 ba20 za23
    have hlba20 := ra10.lt
    replace ra22 : RowL Wa21 _ 33 [Value.int IntKind.i64 1, Value.int IntKind.i64 ↑slots, Value.int IntKind.i64 ↑slot, Value.int IntKind.i64 4, Value.int IntKind.u64 ↑key, Value.int IntKind.u64 ↑ptr, Value.int IntKind.u64 ↑ahead, Value.bool false, Value.bool is, Value.int IntKind.i64 ↑(loads + 1)] := ra22
    clear ra10
    replace ba1 := ba1.grown ba20 ba1.size (by rintro k ⟨⟩; omega)
    replace q := q.grown ba20 q.size (by rintro k ⟨⟩; omega)
    replace ra4 := ra4.gr ba20 (by have := ra4.lt; omega)
    have ra10 := ra22
    clear ra22
    refine LL.nilS ?_
    refine CC.ret ?_
    refine EE.inR ?_
    refine EE.thenR ?_
    refine EE.thenR ?_
    refine EE.retC rfl rfl (lvNc (RowL.cells0 (by assumption)) (by rfl) (by rfl)) ?_
    exact ⟨rfl, q⟩
theorem dgive_1 (v : Nat) {slots slot key ptr ahead loads : Nat} {is : Bool} {w : World} (hs : slot < slots) (hS : slots ≤ 28) (hl : loads ≤ 1000000) : Calls Try.prog 16 #[.agg #[.int .i64 1, .int .i64 (slots : Int), .int .i64 (slot : Int), .int .i64 1, .int .u64 (key : Int), .int .u64 (ptr : Int), .int .u64 (ahead : Int), .bool false, .bool is, .int .i64 (loads : Int)], .int .u64 (v : Int)] w fun e w' => e = .returned (drA (giveD ⟨1, slots, (slot : Int), key, ptr, ahead, false, is, loads⟩ v)) ∧ Below w.heap.size w w' := by
  have q := Below.refl w.heap.size w
  refine X.fn Try.func16 rfl (n := 81) rfl rfl ?_
  refine CC.seq ?_
  refine CC.region ?_
  refine LL.box [Value.int IntKind.i64 1, Value.int IntKind.i64 ↑slots, Value.int IntKind.i64 ↑slot, Value.int IntKind.i64 1, Value.int IntKind.u64 ↑key, Value.int IntKind.u64 ↑ptr, Value.int IntKind.u64 ↑ahead, Value.bool false, Value.bool is, Value.int IntKind.i64 ↑loads] rfl rfl rfl rfl rfl ?_
  intro W2 g3 eg3 r4 z5 b1
  replace q := q.trans (b1.mono q.size)
  have l6 := r4.lt
  refine LL.alloc ([Value.int IntKind.i64 0, Value.int IntKind.i64 0, Value.int IntKind.i64 0, Value.int IntKind.i64 0, Value.int IntKind.u64 0, Value.int IntKind.u64 0, Value.int IntKind.u64 0, Value.bool false, Value.bool false, Value.int IntKind.i64 0]) rfl rfl rfl rfl rfl ?_
  intro W8 g9 eg9 r10 z11 b7
  replace r4 := r4.up b7
  replace b1 := b1.trans (b7.mono b1.size)
  replace q := q.trans (b7.mono q.size)
  refine LL.nilS ?_
  refine CC.seq ?_
  refine CC.region ?_
  refine LL.val (R.field rfl rfl (I.fld rfl)) rfl rfl rfl ?_
  refine LL.val (R.load rfl rfl (I.ld1 rfl (RowL.cell r4 rfl))) rfl rfl rfl ?_
  refine LL.val (R.addNc rfl rfl rfl rfl (by omega)) rfl rfl rfl ?_
  refine LL.val (R.field rfl rfl (I.fld rfl)) rfl rfl rfl ?_
  refine LL.store rfl rfl rfl rfl r4 (by exact Nat.le_of_ble_eq_true rfl) rfl rfl rfl rfl ?_
  intro W13 r14 b12 z15
  have hlb12 := r4.lt
  replace r14 : RowL W13 _ 33 [Value.int IntKind.i64 1, Value.int IntKind.i64 ↑slots, Value.int IntKind.i64 ↑slot, Value.int IntKind.i64 1, Value.int IntKind.u64 ↑key, Value.int IntKind.u64 ↑ptr, Value.int IntKind.u64 ↑ahead, Value.bool false, Value.bool is, Value.int IntKind.i64 ↑(loads + 1)] := r14
  clear r4
  replace r10 := r10.gr b12 (by have := r10.lt; omega)
  replace b1 := b1.grown b12 b1.size (by rintro k ⟨⟩; omega)
  replace q := q.grown b12 q.size (by rintro k ⟨⟩; omega)
  have r4 := r14
  clear r14
  refine LL.nilS ?_
  refine CC.seq ?_
  refine CC.seq ?_
  refine CC.region ?_
  refine LL.val (R.field rfl rfl (I.fld rfl)) rfl rfl rfl ?_
  refine LL.val (R.load rfl rfl (I.ld1 rfl (RowL.cell r4 rfl))) rfl rfl rfl ?_
  refine LL.val (R.eqT rfl rfl rfl (by omega)) rfl rfl rfl ?_
  refine LL.nilS ?_
  refine CC.yes rfl ?_
  refine CC.seq ?_
  refine CC.seq ?_
  refine CC.region ?_
  refine LL.val (R.field rfl rfl (I.fld rfl)) rfl rfl rfl ?_
  refine LL.val (R.load rfl rfl (I.ld1 rfl (RowL.cell r4 rfl))) rfl rfl rfl ?_
  refine LL.nilS ?_
  refine CC.block ?_
  refine CC.seq ?_
  refine CC.region ?_
  refine LL.val (R.eqF rfl rfl rfl (by omega)) rfl rfl rfl ?_
  refine LL.val (R.assign rfl rfl) rfl rfl rfl ?_
  refine LL.nilS ?_
  refine CC.no rfl ?_
  refine CC.seq ?_
  refine CC.region ?_
  refine LL.val (R.eqT rfl rfl rfl (by omega)) rfl rfl rfl ?_
  refine LL.val (R.assign rfl rfl) rfl rfl rfl ?_
  refine LL.nilS ?_
  refine CC.yes rfl ?_
  refine CC.seq ?_
  refine CC.region ?_
  refine LL.val (R.move rfl rfl) rfl rfl rfl ?_
  refine LL.val (R.field rfl rfl (I.fld rfl)) rfl rfl rfl ?_
  refine LL.store rfl rfl rfl rfl r4 (by exact Nat.le_of_ble_eq_true rfl) rfl rfl rfl rfl ?_
  intro W17 r18 b16 z19
  have hlb16 := r4.lt
  replace r18 : RowL W17 _ 33 [Value.int IntKind.i64 1, Value.int IntKind.i64 ↑slots, Value.int IntKind.i64 ↑slot, Value.int IntKind.i64 1, Value.int IntKind.u64 ↑key, Value.int IntKind.u64 ↑ptr, Value.int IntKind.u64 ↑v, Value.bool false, Value.bool is, Value.int IntKind.i64 ↑(loads + 1)] := r18
  clear r4
  replace r10 := r10.gr b16 (by have := r10.lt; omega)
  replace b1 := b1.grown b16 b1.size (by rintro k ⟨⟩; omega)
  replace q := q.grown b16 q.size (by rintro k ⟨⟩; omega)
  have r4 := r18
  clear r18
  refine LL.val (R.field rfl rfl (I.fld rfl)) rfl rfl rfl ?_
  refine LL.store rfl rfl rfl rfl r4 (by exact Nat.le_of_ble_eq_true rfl) rfl rfl rfl rfl ?_
  intro W21 r22 b20 z23
  have hlb20 := r4.lt
  replace r22 : RowL W21 _ 33 [Value.int IntKind.i64 1, Value.int IntKind.i64 ↑slots, Value.int IntKind.i64 ↑slot, Value.int IntKind.i64 2, Value.int IntKind.u64 ↑key, Value.int IntKind.u64 ↑ptr, Value.int IntKind.u64 ↑v, Value.bool false, Value.bool is, Value.int IntKind.i64 ↑(loads + 1)] := r22
  clear r4
  replace r10 := r10.gr b20 (by have := r10.lt; omega)
  replace b1 := b1.grown b20 b1.size (by rintro k ⟨⟩; omega)
  replace q := q.grown b20 q.size (by rintro k ⟨⟩; omega)
  have r4 := r22
  clear r22
  refine LL.nilS ?_
  refine CC.seq ?_
  refine CC.region ?_
  refine LL.val (R.load rfl rfl (I.ldNc (vs := [Value.int IntKind.i64 1, Value.int IntKind.i64 ↑slots, Value.int IntKind.i64 ↑slot, Value.int IntKind.i64 2, Value.int IntKind.u64 ↑key, Value.int IntKind.u64 ↑ptr, Value.int IntKind.u64 ↑v, Value.bool false, Value.bool is, Value.int IntKind.i64 ↑(loads + 1)]) (RowL.cells r4 rfl) (by rfl) (by rfl))) rfl rfl rfl ?_
  refine LL.storeN (vs := [Value.int IntKind.i64 1, Value.int IntKind.i64 ↑slots, Value.int IntKind.i64 ↑slot, Value.int IntKind.i64 2, Value.int IntKind.u64 ↑key, Value.int IntKind.u64 ↑ptr, Value.int IntKind.u64 ↑v, Value.bool false, Value.bool is, Value.int IntKind.i64 ↑(loads + 1)]) rfl rfl rfl rfl r10 (by exact Nat.le_of_ble_eq_true rfl) (ones_of rfl) rfl rfl ?_
  intro W25 r26 b24 z27
  have hlb24 := r10.lt
  replace r26 : RowL W25 _ 33 [Value.int IntKind.i64 1, Value.int IntKind.i64 ↑slots, Value.int IntKind.i64 ↑slot, Value.int IntKind.i64 2, Value.int IntKind.u64 ↑key, Value.int IntKind.u64 ↑ptr, Value.int IntKind.u64 ↑v, Value.bool false, Value.bool is, Value.int IntKind.i64 ↑(loads + 1)] := r26
  clear r10
  replace b1 := b1.grown b24 b1.size (by rintro k ⟨⟩; omega)
  replace q := q.grown b24 q.size (by rintro k ⟨⟩; omega)
  replace r4 := r4.gr b24 (by have := r4.lt; omega)
  have r10 := r26
  clear r26
  refine LL.nilS ?_
  refine CC.ret ?_
  refine EE.inR ?_
  refine EE.thenR ?_
  refine EE.thenR ?_
  refine EE.retC rfl rfl (lvNc (RowL.cells0 (by assumption)) (by rfl) (by rfl)) ?_
  exact ⟨rfl, q⟩
theorem dgive_2 (v : Nat) {slots slot key ptr ahead loads : Nat} {is : Bool} {w : World} (hs : slot < slots) (hS : slots ≤ 28) (hl : loads ≤ 1000000) : Calls Try.prog 16 #[.agg #[.int .i64 1, .int .i64 (slots : Int), .int .i64 (slot : Int), .int .i64 2, .int .u64 (key : Int), .int .u64 (ptr : Int), .int .u64 (ahead : Int), .bool false, .bool is, .int .i64 (loads : Int)], .int .u64 (v : Int)] w fun e w' => e = .returned (drA (giveD ⟨2, slots, (slot : Int), key, ptr, ahead, false, is, loads⟩ v)) ∧ Below w.heap.size w w' := by
  have q := Below.refl w.heap.size w
  refine X.fn Try.func16 rfl (n := 81) rfl rfl ?_
  refine CC.seq ?_
  refine CC.region ?_
  refine LL.box [Value.int IntKind.i64 1, Value.int IntKind.i64 ↑slots, Value.int IntKind.i64 ↑slot, Value.int IntKind.i64 2, Value.int IntKind.u64 ↑key, Value.int IntKind.u64 ↑ptr, Value.int IntKind.u64 ↑ahead, Value.bool false, Value.bool is, Value.int IntKind.i64 ↑loads] rfl rfl rfl rfl rfl ?_
  intro W2 g3 eg3 r4 z5 b1
  replace q := q.trans (b1.mono q.size)
  have l6 := r4.lt
  refine LL.alloc ([Value.int IntKind.i64 0, Value.int IntKind.i64 0, Value.int IntKind.i64 0, Value.int IntKind.i64 0, Value.int IntKind.u64 0, Value.int IntKind.u64 0, Value.int IntKind.u64 0, Value.bool false, Value.bool false, Value.int IntKind.i64 0]) rfl rfl rfl rfl rfl ?_
  intro W8 g9 eg9 r10 z11 b7
  replace r4 := r4.up b7
  replace b1 := b1.trans (b7.mono b1.size)
  replace q := q.trans (b7.mono q.size)
  refine LL.nilS ?_
  refine CC.seq ?_
  refine CC.region ?_
  refine LL.val (R.field rfl rfl (I.fld rfl)) rfl rfl rfl ?_
  refine LL.val (R.load rfl rfl (I.ld1 rfl (RowL.cell r4 rfl))) rfl rfl rfl ?_
  refine LL.val (R.addNc rfl rfl rfl rfl (by omega)) rfl rfl rfl ?_
  refine LL.val (R.field rfl rfl (I.fld rfl)) rfl rfl rfl ?_
  refine LL.store rfl rfl rfl rfl r4 (by exact Nat.le_of_ble_eq_true rfl) rfl rfl rfl rfl ?_
  intro W13 r14 b12 z15
  have hlb12 := r4.lt
  replace r14 : RowL W13 _ 33 [Value.int IntKind.i64 1, Value.int IntKind.i64 ↑slots, Value.int IntKind.i64 ↑slot, Value.int IntKind.i64 2, Value.int IntKind.u64 ↑key, Value.int IntKind.u64 ↑ptr, Value.int IntKind.u64 ↑ahead, Value.bool false, Value.bool is, Value.int IntKind.i64 ↑(loads + 1)] := r14
  clear r4
  replace r10 := r10.gr b12 (by have := r10.lt; omega)
  replace b1 := b1.grown b12 b1.size (by rintro k ⟨⟩; omega)
  replace q := q.grown b12 q.size (by rintro k ⟨⟩; omega)
  have r4 := r14
  clear r14
  refine LL.nilS ?_
  refine CC.seq ?_
  refine CC.seq ?_
  refine CC.region ?_
  refine LL.val (R.field rfl rfl (I.fld rfl)) rfl rfl rfl ?_
  refine LL.val (R.load rfl rfl (I.ld1 rfl (RowL.cell r4 rfl))) rfl rfl rfl ?_
  refine LL.val (R.eqT rfl rfl rfl (by omega)) rfl rfl rfl ?_
  refine LL.nilS ?_
  refine CC.yes rfl ?_
  refine CC.seq ?_
  refine CC.seq ?_
  refine CC.region ?_
  refine LL.val (R.field rfl rfl (I.fld rfl)) rfl rfl rfl ?_
  refine LL.val (R.load rfl rfl (I.ld1 rfl (RowL.cell r4 rfl))) rfl rfl rfl ?_
  refine LL.nilS ?_
  refine CC.block ?_
  refine CC.seq ?_
  refine CC.region ?_
  refine LL.val (R.eqF rfl rfl rfl (by omega)) rfl rfl rfl ?_
  refine LL.val (R.assign rfl rfl) rfl rfl rfl ?_
  refine LL.nilS ?_
  refine CC.no rfl ?_
  refine CC.seq ?_
  refine CC.region ?_
  refine LL.val (R.eqF rfl rfl rfl (by omega)) rfl rfl rfl ?_
  refine LL.val (R.assign rfl rfl) rfl rfl rfl ?_
  refine LL.nilS ?_
  refine CC.no rfl ?_
  refine CC.seq ?_
  refine CC.region ?_
  refine LL.val (R.eqT rfl rfl rfl (by omega)) rfl rfl rfl ?_
  refine LL.val (R.assign rfl rfl) rfl rfl rfl ?_
  refine LL.nilS ?_
  refine CC.yes rfl ?_
  refine CC.seq ?_
  refine CC.region ?_
  refine LL.val (R.move rfl rfl) rfl rfl rfl ?_
  refine LL.val (R.field rfl rfl (I.fld rfl)) rfl rfl rfl ?_
  refine LL.store rfl rfl rfl rfl r4 (by exact Nat.le_of_ble_eq_true rfl) rfl rfl rfl rfl ?_
  intro W17 r18 b16 z19
  have hlb16 := r4.lt
  replace r18 : RowL W17 _ 33 [Value.int IntKind.i64 1, Value.int IntKind.i64 ↑slots, Value.int IntKind.i64 ↑slot, Value.int IntKind.i64 2, Value.int IntKind.u64 ↑key, Value.int IntKind.u64 ↑v, Value.int IntKind.u64 ↑ahead, Value.bool false, Value.bool is, Value.int IntKind.i64 ↑(loads + 1)] := r18
  clear r4
  replace r10 := r10.gr b16 (by have := r10.lt; omega)
  replace b1 := b1.grown b16 b1.size (by rintro k ⟨⟩; omega)
  replace q := q.grown b16 q.size (by rintro k ⟨⟩; omega)
  have r4 := r18
  clear r18
  refine LL.val (R.field rfl rfl (I.fld rfl)) rfl rfl rfl ?_
  refine LL.store rfl rfl rfl rfl r4 (by exact Nat.le_of_ble_eq_true rfl) rfl rfl rfl rfl ?_
  intro W21 r22 b20 z23
  have hlb20 := r4.lt
  replace r22 : RowL W21 _ 33 [Value.int IntKind.i64 1, Value.int IntKind.i64 ↑slots, Value.int IntKind.i64 ↑slot, Value.int IntKind.i64 3, Value.int IntKind.u64 ↑key, Value.int IntKind.u64 ↑v, Value.int IntKind.u64 ↑ahead, Value.bool false, Value.bool is, Value.int IntKind.i64 ↑(loads + 1)] := r22
  clear r4
  replace r10 := r10.gr b20 (by have := r10.lt; omega)
  replace b1 := b1.grown b20 b1.size (by rintro k ⟨⟩; omega)
  replace q := q.grown b20 q.size (by rintro k ⟨⟩; omega)
  have r4 := r22
  clear r22
  refine LL.nilS ?_
  refine CC.seq ?_
  refine CC.region ?_
  refine LL.val (R.load rfl rfl (I.ldNc (vs := [Value.int IntKind.i64 1, Value.int IntKind.i64 ↑slots, Value.int IntKind.i64 ↑slot, Value.int IntKind.i64 3, Value.int IntKind.u64 ↑key, Value.int IntKind.u64 ↑v, Value.int IntKind.u64 ↑ahead, Value.bool false, Value.bool is, Value.int IntKind.i64 ↑(loads + 1)]) (RowL.cells r4 rfl) (by rfl) (by rfl))) rfl rfl rfl ?_
  refine LL.storeN (vs := [Value.int IntKind.i64 1, Value.int IntKind.i64 ↑slots, Value.int IntKind.i64 ↑slot, Value.int IntKind.i64 3, Value.int IntKind.u64 ↑key, Value.int IntKind.u64 ↑v, Value.int IntKind.u64 ↑ahead, Value.bool false, Value.bool is, Value.int IntKind.i64 ↑(loads + 1)]) rfl rfl rfl rfl r10 (by exact Nat.le_of_ble_eq_true rfl) (ones_of rfl) rfl rfl ?_
  intro W25 r26 b24 z27
  have hlb24 := r10.lt
  replace r26 : RowL W25 _ 33 [Value.int IntKind.i64 1, Value.int IntKind.i64 ↑slots, Value.int IntKind.i64 ↑slot, Value.int IntKind.i64 3, Value.int IntKind.u64 ↑key, Value.int IntKind.u64 ↑v, Value.int IntKind.u64 ↑ahead, Value.bool false, Value.bool is, Value.int IntKind.i64 ↑(loads + 1)] := r26
  clear r10
  replace b1 := b1.grown b24 b1.size (by rintro k ⟨⟩; omega)
  replace q := q.grown b24 q.size (by rintro k ⟨⟩; omega)
  replace r4 := r4.gr b24 (by have := r4.lt; omega)
  have r10 := r26
  clear r26
  refine LL.nilS ?_
  refine CC.ret ?_
  refine EE.inR ?_
  refine EE.thenR ?_
  refine EE.thenR ?_
  refine EE.retC rfl rfl (lvNc (RowL.cells0 (by assumption)) (by rfl) (by rfl)) ?_
  exact ⟨rfl, q⟩
theorem dgive_7 (v : Nat) {slots slot key ptr ahead loads : Nat} {is : Bool} {w : World} (hs : slot < slots) (hS : slots ≤ 28) (hl : loads ≤ 1000000) : Calls Try.prog 16 #[.agg #[.int .i64 2, .int .i64 (slots : Int), .int .i64 (slot : Int), .int .i64 2, .int .u64 (key : Int), .int .u64 (ptr : Int), .int .u64 (ahead : Int), .bool false, .bool is, .int .i64 (loads : Int)], .int .u64 (v : Int)] w fun e w' => e = .returned (drA (giveD ⟨7, slots, (slot : Int), key, ptr, ahead, false, is, loads⟩ v)) ∧ Below w.heap.size w w' := by
  have q := Below.refl w.heap.size w
  refine X.fn Try.func16 rfl (n := 81) rfl rfl ?_
  refine CC.seq ?_
  refine CC.region ?_
  refine LL.box [Value.int IntKind.i64 2, Value.int IntKind.i64 ↑slots, Value.int IntKind.i64 ↑slot, Value.int IntKind.i64 2, Value.int IntKind.u64 ↑key, Value.int IntKind.u64 ↑ptr, Value.int IntKind.u64 ↑ahead, Value.bool false, Value.bool is, Value.int IntKind.i64 ↑loads] rfl rfl rfl rfl rfl ?_
  intro W2 g3 eg3 r4 z5 b1
  replace q := q.trans (b1.mono q.size)
  have l6 := r4.lt
  refine LL.alloc ([Value.int IntKind.i64 0, Value.int IntKind.i64 0, Value.int IntKind.i64 0, Value.int IntKind.i64 0, Value.int IntKind.u64 0, Value.int IntKind.u64 0, Value.int IntKind.u64 0, Value.bool false, Value.bool false, Value.int IntKind.i64 0]) rfl rfl rfl rfl rfl ?_
  intro W8 g9 eg9 r10 z11 b7
  replace r4 := r4.up b7
  replace b1 := b1.trans (b7.mono b1.size)
  replace q := q.trans (b7.mono q.size)
  refine LL.nilS ?_
  refine CC.seq ?_
  refine CC.region ?_
  refine LL.val (R.field rfl rfl (I.fld rfl)) rfl rfl rfl ?_
  refine LL.val (R.load rfl rfl (I.ld1 rfl (RowL.cell r4 rfl))) rfl rfl rfl ?_
  refine LL.val (R.addNc rfl rfl rfl rfl (by omega)) rfl rfl rfl ?_
  refine LL.val (R.field rfl rfl (I.fld rfl)) rfl rfl rfl ?_
  refine LL.store rfl rfl rfl rfl r4 (by exact Nat.le_of_ble_eq_true rfl) rfl rfl rfl rfl ?_
  intro W13 r14 b12 z15
  have hlb12 := r4.lt
  replace r14 : RowL W13 _ 33 [Value.int IntKind.i64 2, Value.int IntKind.i64 ↑slots, Value.int IntKind.i64 ↑slot, Value.int IntKind.i64 2, Value.int IntKind.u64 ↑key, Value.int IntKind.u64 ↑ptr, Value.int IntKind.u64 ↑ahead, Value.bool false, Value.bool is, Value.int IntKind.i64 ↑(loads + 1)] := r14
  clear r4
  replace r10 := r10.gr b12 (by have := r10.lt; omega)
  replace b1 := b1.grown b12 b1.size (by rintro k ⟨⟩; omega)
  replace q := q.grown b12 q.size (by rintro k ⟨⟩; omega)
  have r4 := r14
  clear r14
  refine LL.nilS ?_
  refine CC.seq ?_
  refine CC.seq ?_
  refine CC.region ?_
  refine LL.val (R.field rfl rfl (I.fld rfl)) rfl rfl rfl ?_
  refine LL.val (R.load rfl rfl (I.ld1 rfl (RowL.cell r4 rfl))) rfl rfl rfl ?_
  refine LL.val (R.eqF rfl rfl rfl (by omega)) rfl rfl rfl ?_
  refine LL.nilS ?_
  refine CC.no rfl ?_
  refine CC.skip ?_
  refine EE.thenN ?_
  refine CC.seq ?_
  refine CC.seq ?_
  refine CC.region ?_
  refine LL.val (R.field rfl rfl (I.fld rfl)) rfl rfl rfl ?_
  refine LL.val (R.load rfl rfl (I.ld1 rfl (RowL.cell r4 rfl))) rfl rfl rfl ?_
  refine LL.nilS ?_
  refine CC.block ?_
  refine CC.seq ?_
  refine CC.region ?_
  refine LL.val (R.eqF rfl rfl rfl (by omega)) rfl rfl rfl ?_
  refine LL.val (R.assign rfl rfl) rfl rfl rfl ?_
  refine LL.nilS ?_
  refine CC.no rfl ?_
  refine CC.seq ?_
  refine CC.region ?_
  refine LL.val (R.eqF rfl rfl rfl (by omega)) rfl rfl rfl ?_
  refine LL.val (R.assign rfl rfl) rfl rfl rfl ?_
  refine LL.nilS ?_
  refine CC.no rfl ?_
  refine CC.seq ?_
  refine CC.region ?_
  refine LL.val (R.eqT rfl rfl rfl (by omega)) rfl rfl rfl ?_
  refine LL.val (R.assign rfl rfl) rfl rfl rfl ?_
  refine LL.nilS ?_
  refine CC.yes rfl ?_
  refine CC.seq ?_
  refine CC.region ?_
  refine LL.val (R.move rfl rfl) rfl rfl rfl ?_
  refine LL.val (R.field rfl rfl (I.fld rfl)) rfl rfl rfl ?_
  refine LL.store rfl rfl rfl rfl r4 (by exact Nat.le_of_ble_eq_true rfl) rfl rfl rfl rfl ?_
  intro W17 r18 b16 z19
  have hlb16 := r4.lt
  replace r18 : RowL W17 _ 33 [Value.int IntKind.i64 2, Value.int IntKind.i64 ↑slots, Value.int IntKind.i64 ↑slot, Value.int IntKind.i64 2, Value.int IntKind.u64 ↑key, Value.int IntKind.u64 ↑ptr, Value.int IntKind.u64 ↑v, Value.bool false, Value.bool is, Value.int IntKind.i64 ↑(loads + 1)] := r18
  clear r4
  replace r10 := r10.gr b16 (by have := r10.lt; omega)
  replace b1 := b1.grown b16 b1.size (by rintro k ⟨⟩; omega)
  replace q := q.grown b16 q.size (by rintro k ⟨⟩; omega)
  have r4 := r18
  clear r18
  refine LL.val (R.field rfl rfl (I.fld rfl)) rfl rfl rfl ?_
  refine LL.store rfl rfl rfl rfl r4 (by exact Nat.le_of_ble_eq_true rfl) rfl rfl rfl rfl ?_
  intro W21 r22 b20 z23
  have hlb20 := r4.lt
  replace r22 : RowL W21 _ 33 [Value.int IntKind.i64 2, Value.int IntKind.i64 ↑slots, Value.int IntKind.i64 ↑slot, Value.int IntKind.i64 3, Value.int IntKind.u64 ↑key, Value.int IntKind.u64 ↑ptr, Value.int IntKind.u64 ↑v, Value.bool false, Value.bool is, Value.int IntKind.i64 ↑(loads + 1)] := r22
  clear r4
  replace r10 := r10.gr b20 (by have := r10.lt; omega)
  replace b1 := b1.grown b20 b1.size (by rintro k ⟨⟩; omega)
  replace q := q.grown b20 q.size (by rintro k ⟨⟩; omega)
  have r4 := r22
  clear r22
  refine LL.nilS ?_
  refine CC.seq ?_
  refine CC.region ?_
  refine LL.val (R.load rfl rfl (I.ldNc (vs := [Value.int IntKind.i64 2, Value.int IntKind.i64 ↑slots, Value.int IntKind.i64 ↑slot, Value.int IntKind.i64 3, Value.int IntKind.u64 ↑key, Value.int IntKind.u64 ↑ptr, Value.int IntKind.u64 ↑v, Value.bool false, Value.bool is, Value.int IntKind.i64 ↑(loads + 1)]) (RowL.cells r4 rfl) (by rfl) (by rfl))) rfl rfl rfl ?_
  refine LL.storeN (vs := [Value.int IntKind.i64 2, Value.int IntKind.i64 ↑slots, Value.int IntKind.i64 ↑slot, Value.int IntKind.i64 3, Value.int IntKind.u64 ↑key, Value.int IntKind.u64 ↑ptr, Value.int IntKind.u64 ↑v, Value.bool false, Value.bool is, Value.int IntKind.i64 ↑(loads + 1)]) rfl rfl rfl rfl r10 (by exact Nat.le_of_ble_eq_true rfl) (ones_of rfl) rfl rfl ?_
  intro W25 r26 b24 z27
  have hlb24 := r10.lt
  replace r26 : RowL W25 _ 33 [Value.int IntKind.i64 2, Value.int IntKind.i64 ↑slots, Value.int IntKind.i64 ↑slot, Value.int IntKind.i64 3, Value.int IntKind.u64 ↑key, Value.int IntKind.u64 ↑ptr, Value.int IntKind.u64 ↑v, Value.bool false, Value.bool is, Value.int IntKind.i64 ↑(loads + 1)] := r26
  clear r10
  replace b1 := b1.grown b24 b1.size (by rintro k ⟨⟩; omega)
  replace q := q.grown b24 q.size (by rintro k ⟨⟩; omega)
  replace r4 := r4.gr b24 (by have := r4.lt; omega)
  have r10 := r26
  clear r26
  refine LL.nilS ?_
  refine CC.ret ?_
  refine EE.inR ?_
  refine EE.thenR ?_
  refine EE.retC rfl rfl (lvNc (RowL.cells0 (by assumption)) (by rfl) (by rfl)) ?_
  exact ⟨rfl, q⟩
theorem dgive_3 (v : Nat) {slots slot key ptr ahead loads : Nat} {is : Bool} {w : World} (hs : slot < slots) (hS : slots ≤ 28) (hl : loads ≤ 1000000) : Calls Try.prog 16 #[.agg #[.int .i64 1, .int .i64 (slots : Int), .int .i64 (slot : Int), .int .i64 3, .int .u64 (key : Int), .int .u64 (ptr : Int), .int .u64 (ahead : Int), .bool false, .bool is, .int .i64 (loads : Int)], .int .u64 (v : Int)] w fun e w' => e = .returned (drA (giveD ⟨3, slots, (slot : Int), key, ptr, ahead, false, is, loads⟩ v)) ∧ Below w.heap.size w w' := by
  have q := Below.refl w.heap.size w
  by_cases hv : v = key
  · rw [show giveD ⟨3, slots, (slot : Int), key, ptr, ahead, false, is, loads⟩ v = endD ⟨3, slots, (slot : Int), key, ptr, ahead, false, is, loads + 1⟩ (decide (v = key)) from rfl, decide_eq_true hv]
    refine X.fn Try.func16 rfl (n := 81) rfl rfl ?_
    refine CC.seq ?_
    refine CC.region ?_
    refine LL.box [Value.int IntKind.i64 1, Value.int IntKind.i64 ↑slots, Value.int IntKind.i64 ↑slot, Value.int IntKind.i64 3, Value.int IntKind.u64 ↑key, Value.int IntKind.u64 ↑ptr, Value.int IntKind.u64 ↑ahead, Value.bool false, Value.bool is, Value.int IntKind.i64 ↑loads] rfl rfl rfl rfl rfl ?_
    intro W9 g10 eg10 r11 z12 b8
    replace q := q.trans (b8.mono q.size)
    have l21 := r11.lt
    refine LL.alloc ([Value.int IntKind.i64 0, Value.int IntKind.i64 0, Value.int IntKind.i64 0, Value.int IntKind.i64 0, Value.int IntKind.u64 0, Value.int IntKind.u64 0, Value.int IntKind.u64 0, Value.bool false, Value.bool false, Value.int IntKind.i64 0]) rfl rfl rfl rfl rfl ?_
    intro W23 g24 eg24 r25 z26 b22
    replace r11 := r11.up b22
    replace b8 := b8.trans (b22.mono b8.size)
    replace q := q.trans (b22.mono q.size)
    refine LL.nilS ?_
    refine CC.seq ?_
    refine CC.region ?_
    refine LL.val (R.field rfl rfl (I.fld rfl)) rfl rfl rfl ?_
    refine LL.val (R.load rfl rfl (I.ld1 rfl (RowL.cell r11 rfl))) rfl rfl rfl ?_
    refine LL.val (R.addNc rfl rfl rfl rfl (by omega)) rfl rfl rfl ?_
    refine LL.val (R.field rfl rfl (I.fld rfl)) rfl rfl rfl ?_
    refine LL.store rfl rfl rfl rfl r11 (by exact Nat.le_of_ble_eq_true rfl) rfl rfl rfl rfl ?_
    intro W73 r74 b72 z75
    have hlb72 := r11.lt
    replace r74 : RowL W73 _ 33 [Value.int IntKind.i64 1, Value.int IntKind.i64 ↑slots, Value.int IntKind.i64 ↑slot, Value.int IntKind.i64 3, Value.int IntKind.u64 ↑key, Value.int IntKind.u64 ↑ptr, Value.int IntKind.u64 ↑ahead, Value.bool false, Value.bool is, Value.int IntKind.i64 ↑(loads + 1)] := r74
    clear r11
    replace r25 := r25.gr b72 (by have := r25.lt; omega)
    replace b8 := b8.grown b72 b8.size (by rintro k ⟨⟩; omega)
    replace q := q.grown b72 q.size (by rintro k ⟨⟩; omega)
    have r11 := r74
    clear r74
    refine LL.nilS ?_
    refine CC.seq ?_
    refine CC.seq ?_
    refine CC.region ?_
    refine LL.val (R.field rfl rfl (I.fld rfl)) rfl rfl rfl ?_
    refine LL.val (R.load rfl rfl (I.ld1 rfl (RowL.cell r11 rfl))) rfl rfl rfl ?_
    refine LL.val (R.eqT rfl rfl rfl (by omega)) rfl rfl rfl ?_
    refine LL.nilS ?_
    refine CC.yes rfl ?_
    refine CC.seq ?_
    refine CC.seq ?_
    refine CC.region ?_
    refine LL.val (R.field rfl rfl (I.fld rfl)) rfl rfl rfl ?_
    refine LL.val (R.load rfl rfl (I.ld1 rfl (RowL.cell r11 rfl))) rfl rfl rfl ?_
    refine LL.nilS ?_
    refine CC.block ?_
    refine CC.seq ?_
    refine CC.region ?_
    refine LL.val (R.eqF rfl rfl rfl (by omega)) rfl rfl rfl ?_
    refine LL.val (R.assign rfl rfl) rfl rfl rfl ?_
    refine LL.nilS ?_
    refine CC.no rfl ?_
    refine CC.seq ?_
    refine CC.region ?_
    refine LL.val (R.eqF rfl rfl rfl (by omega)) rfl rfl rfl ?_
    refine LL.val (R.assign rfl rfl) rfl rfl rfl ?_
    refine LL.nilS ?_
    refine CC.no rfl ?_
    refine CC.seq ?_
    refine CC.region ?_
    refine LL.val (R.eqF rfl rfl rfl (by omega)) rfl rfl rfl ?_
    refine LL.val (R.assign rfl rfl) rfl rfl rfl ?_
    refine LL.nilS ?_
    refine CC.no rfl ?_
    refine CC.seq ?_
    refine CC.region ?_
    refine LL.val (R.eqT rfl rfl rfl (by omega)) rfl rfl rfl ?_
    refine LL.val (R.assign rfl rfl) rfl rfl rfl ?_
    refine LL.nilS ?_
    refine CC.yes rfl ?_
    refine CC.seq ?_
    refine CC.region ?_
    refine LL.val (R.load rfl rfl (I.ldNc (vs := [Value.int IntKind.i64 1, Value.int IntKind.i64 ↑slots, Value.int IntKind.i64 ↑slot, Value.int IntKind.i64 3, Value.int IntKind.u64 ↑key, Value.int IntKind.u64 ↑ptr, Value.int IntKind.u64 ↑ahead, Value.bool false, Value.bool is, Value.int IntKind.i64 ↑(loads + 1)]) (RowL.cells r11 rfl) (by rfl) (by rfl))) rfl rfl rfl ?_
    refine LL.val (R.move rfl rfl) rfl rfl rfl ?_
    refine LL.val (R.field rfl rfl (I.fld rfl)) rfl rfl rfl ?_
    refine LL.val (R.load rfl rfl (I.ld1 rfl (RowL.cell r11 rfl))) rfl rfl rfl ?_
    refine LL.val (R.eqT rfl rfl rfl (by omega)) rfl rfl rfl ?_
    have l242 := r25.lt
    have l243 := r11.lt
    (refine LL.call (R.call rfl rfl rfl) rfl rfl rfl (endD_3 true hs hS) ?_; rintro e W241 ⟨rfl, b238⟩; refine ⟨_, rfl, ?_⟩)
    have zb238 := b238.size
    replace r25 := r25.up b238
    replace b8 := b8.trans (b238.mono b8.size)
    replace q := q.trans (b238.mono q.size)
    replace r11 := r11.up b238
    refine LL.storeN (vs := [Value.int IntKind.i64 (wayD (endD { k := 3, slots := slots, slot := ↑slot, key := key, ptr := ptr, ahead := ahead, dn := false, is := is, loads := loads + 1 } true).k), Value.int IntKind.i64 ↑(endD { k := 3, slots := slots, slot := ↑slot, key := key, ptr := ptr, ahead := ahead, dn := false, is := is, loads := loads + 1 } true).slots, Value.int IntKind.i64 (endD { k := 3, slots := slots, slot := ↑slot, key := key, ptr := ptr, ahead := ahead, dn := false, is := is, loads := loads + 1 } true).slot, Value.int IntKind.i64 (stepD (endD { k := 3, slots := slots, slot := ↑slot, key := key, ptr := ptr, ahead := ahead, dn := false, is := is, loads := loads + 1 } true).k), Value.int IntKind.u64 ↑(endD { k := 3, slots := slots, slot := ↑slot, key := key, ptr := ptr, ahead := ahead, dn := false, is := is, loads := loads + 1 } true).key, Value.int IntKind.u64 ↑(endD { k := 3, slots := slots, slot := ↑slot, key := key, ptr := ptr, ahead := ahead, dn := false, is := is, loads := loads + 1 } true).ptr, Value.int IntKind.u64 ↑(endD { k := 3, slots := slots, slot := ↑slot, key := key, ptr := ptr, ahead := ahead, dn := false, is := is, loads := loads + 1 } true).ahead, Value.bool (endD { k := 3, slots := slots, slot := ↑slot, key := key, ptr := ptr, ahead := ahead, dn := false, is := is, loads := loads + 1 } true).dn, Value.bool (endD { k := 3, slots := slots, slot := ↑slot, key := key, ptr := ptr, ahead := ahead, dn := false, is := is, loads := loads + 1 } true).is, Value.int IntKind.i64 ↑(endD { k := 3, slots := slots, slot := ↑slot, key := key, ptr := ptr, ahead := ahead, dn := false, is := is, loads := loads + 1 } true).loads]) rfl rfl rfl rfl r25 (by exact Nat.le_of_ble_eq_true rfl) (ones_of rfl) rfl rfl ?_
    intro W257 r258 b256 z259
    have hlb256 := r25.lt
    replace r258 : RowL W257 _ 33 [Value.int IntKind.i64 (wayD (endD { k := 3, slots := slots, slot := ↑slot, key := key, ptr := ptr, ahead := ahead, dn := false, is := is, loads := loads + 1 } true).k), Value.int IntKind.i64 ↑(endD { k := 3, slots := slots, slot := ↑slot, key := key, ptr := ptr, ahead := ahead, dn := false, is := is, loads := loads + 1 } true).slots, Value.int IntKind.i64 (endD { k := 3, slots := slots, slot := ↑slot, key := key, ptr := ptr, ahead := ahead, dn := false, is := is, loads := loads + 1 } true).slot, Value.int IntKind.i64 (stepD (endD { k := 3, slots := slots, slot := ↑slot, key := key, ptr := ptr, ahead := ahead, dn := false, is := is, loads := loads + 1 } true).k), Value.int IntKind.u64 ↑(endD { k := 3, slots := slots, slot := ↑slot, key := key, ptr := ptr, ahead := ahead, dn := false, is := is, loads := loads + 1 } true).key, Value.int IntKind.u64 ↑(endD { k := 3, slots := slots, slot := ↑slot, key := key, ptr := ptr, ahead := ahead, dn := false, is := is, loads := loads + 1 } true).ptr, Value.int IntKind.u64 ↑(endD { k := 3, slots := slots, slot := ↑slot, key := key, ptr := ptr, ahead := ahead, dn := false, is := is, loads := loads + 1 } true).ahead, Value.bool (endD { k := 3, slots := slots, slot := ↑slot, key := key, ptr := ptr, ahead := ahead, dn := false, is := is, loads := loads + 1 } true).dn, Value.bool (endD { k := 3, slots := slots, slot := ↑slot, key := key, ptr := ptr, ahead := ahead, dn := false, is := is, loads := loads + 1 } true).is, Value.int IntKind.i64 ↑(endD { k := 3, slots := slots, slot := ↑slot, key := key, ptr := ptr, ahead := ahead, dn := false, is := is, loads := loads + 1 } true).loads] := r258
    clear r25
    replace b8 := b8.grown b256 b8.size (by rintro k ⟨⟩; omega)
    replace q := q.grown b256 q.size (by rintro k ⟨⟩; omega)
    replace r11 := r11.gr b256 (by have := r11.lt; omega)
    have r25 := r258
    clear r258
    refine LL.nilS ?_
    refine CC.ret ?_
    refine EE.inR ?_
    refine EE.thenR ?_
    refine EE.thenR ?_
    refine EE.retC rfl rfl (lvNc (RowL.cells0 (by assumption)) (by rfl) (by rfl)) ?_
    exact ⟨rfl, q⟩
  · rw [show giveD ⟨3, slots, (slot : Int), key, ptr, ahead, false, is, loads⟩ v = endD ⟨3, slots, (slot : Int), key, ptr, ahead, false, is, loads + 1⟩ (decide (v = key)) from rfl, decide_eq_false hv]
    refine X.fn Try.func16 rfl (n := 81) rfl rfl ?_
    refine CC.seq ?_
    refine CC.region ?_
    refine LL.box [Value.int IntKind.i64 1, Value.int IntKind.i64 ↑slots, Value.int IntKind.i64 ↑slot, Value.int IntKind.i64 3, Value.int IntKind.u64 ↑key, Value.int IntKind.u64 ↑ptr, Value.int IntKind.u64 ↑ahead, Value.bool false, Value.bool is, Value.int IntKind.i64 ↑loads] rfl rfl rfl rfl rfl ?_
    intro Wa9 ga10 ega10 ra11 za12 ba8
    replace q := q.trans (ba8.mono q.size)
    have la21 := ra11.lt
    refine LL.alloc ([Value.int IntKind.i64 0, Value.int IntKind.i64 0, Value.int IntKind.i64 0, Value.int IntKind.i64 0, Value.int IntKind.u64 0, Value.int IntKind.u64 0, Value.int IntKind.u64 0, Value.bool false, Value.bool false, Value.int IntKind.i64 0]) rfl rfl rfl rfl rfl ?_
    intro Wa23 ga24 ega24 ra25 za26 ba22
    replace ra11 := ra11.up ba22
    replace ba8 := ba8.trans (ba22.mono ba8.size)
    replace q := q.trans (ba22.mono q.size)
    refine LL.nilS ?_
    refine CC.seq ?_
    refine CC.region ?_
    refine LL.val (R.field rfl rfl (I.fld rfl)) rfl rfl rfl ?_
    refine LL.val (R.load rfl rfl (I.ld1 rfl (RowL.cell ra11 rfl))) rfl rfl rfl ?_
    refine LL.val (R.addNc rfl rfl rfl rfl (by omega)) rfl rfl rfl ?_
    refine LL.val (R.field rfl rfl (I.fld rfl)) rfl rfl rfl ?_
    refine LL.store rfl rfl rfl rfl ra11 (by exact Nat.le_of_ble_eq_true rfl) rfl rfl rfl rfl ?_
    intro Wa73 ra74 ba72 za75
    have hlba72 := ra11.lt
    replace ra74 : RowL Wa73 _ 33 [Value.int IntKind.i64 1, Value.int IntKind.i64 ↑slots, Value.int IntKind.i64 ↑slot, Value.int IntKind.i64 3, Value.int IntKind.u64 ↑key, Value.int IntKind.u64 ↑ptr, Value.int IntKind.u64 ↑ahead, Value.bool false, Value.bool is, Value.int IntKind.i64 ↑(loads + 1)] := ra74
    clear ra11
    replace ra25 := ra25.gr ba72 (by have := ra25.lt; omega)
    replace ba8 := ba8.grown ba72 ba8.size (by rintro k ⟨⟩; omega)
    replace q := q.grown ba72 q.size (by rintro k ⟨⟩; omega)
    have ra11 := ra74
    clear ra74
    refine LL.nilS ?_
    refine CC.seq ?_
    refine CC.seq ?_
    refine CC.region ?_
    refine LL.val (R.field rfl rfl (I.fld rfl)) rfl rfl rfl ?_
    refine LL.val (R.load rfl rfl (I.ld1 rfl (RowL.cell ra11 rfl))) rfl rfl rfl ?_
    refine LL.val (R.eqT rfl rfl rfl (by omega)) rfl rfl rfl ?_
    refine LL.nilS ?_
    refine CC.yes rfl ?_
    refine CC.seq ?_
    refine CC.seq ?_
    refine CC.region ?_
    refine LL.val (R.field rfl rfl (I.fld rfl)) rfl rfl rfl ?_
    refine LL.val (R.load rfl rfl (I.ld1 rfl (RowL.cell ra11 rfl))) rfl rfl rfl ?_
    refine LL.nilS ?_
    refine CC.block ?_
    refine CC.seq ?_
    refine CC.region ?_
    refine LL.val (R.eqF rfl rfl rfl (by omega)) rfl rfl rfl ?_
    refine LL.val (R.assign rfl rfl) rfl rfl rfl ?_
    refine LL.nilS ?_
    refine CC.no rfl ?_
    refine CC.seq ?_
    refine CC.region ?_
    refine LL.val (R.eqF rfl rfl rfl (by omega)) rfl rfl rfl ?_
    refine LL.val (R.assign rfl rfl) rfl rfl rfl ?_
    refine LL.nilS ?_
    refine CC.no rfl ?_
    refine CC.seq ?_
    refine CC.region ?_
    refine LL.val (R.eqF rfl rfl rfl (by omega)) rfl rfl rfl ?_
    refine LL.val (R.assign rfl rfl) rfl rfl rfl ?_
    refine LL.nilS ?_
    refine CC.no rfl ?_
    refine CC.seq ?_
    refine CC.region ?_
    refine LL.val (R.eqT rfl rfl rfl (by omega)) rfl rfl rfl ?_
    refine LL.val (R.assign rfl rfl) rfl rfl rfl ?_
    refine LL.nilS ?_
    refine CC.yes rfl ?_
    refine CC.seq ?_
    refine CC.region ?_
    refine LL.val (R.load rfl rfl (I.ldNc (vs := [Value.int IntKind.i64 1, Value.int IntKind.i64 ↑slots, Value.int IntKind.i64 ↑slot, Value.int IntKind.i64 3, Value.int IntKind.u64 ↑key, Value.int IntKind.u64 ↑ptr, Value.int IntKind.u64 ↑ahead, Value.bool false, Value.bool is, Value.int IntKind.i64 ↑(loads + 1)]) (RowL.cells ra11 rfl) (by rfl) (by rfl))) rfl rfl rfl ?_
    refine LL.val (R.move rfl rfl) rfl rfl rfl ?_
    refine LL.val (R.field rfl rfl (I.fld rfl)) rfl rfl rfl ?_
    refine LL.val (R.load rfl rfl (I.ld1 rfl (RowL.cell ra11 rfl))) rfl rfl rfl ?_
    refine LL.val (R.eqF rfl rfl rfl (by omega)) rfl rfl rfl ?_
    have la242 := ra25.lt
    have la243 := ra11.lt
    (refine LL.call (R.call rfl rfl rfl) rfl rfl rfl (endD_3 false hs hS) ?_; rintro e Wa241 ⟨rfl, ba238⟩; refine ⟨_, rfl, ?_⟩)
    have zba238 := ba238.size
    replace ra25 := ra25.up ba238
    replace ba8 := ba8.trans (ba238.mono ba8.size)
    replace q := q.trans (ba238.mono q.size)
    replace ra11 := ra11.up ba238
    refine LL.storeN (vs := [Value.int IntKind.i64 (wayD (endD { k := 3, slots := slots, slot := ↑slot, key := key, ptr := ptr, ahead := ahead, dn := false, is := is, loads := loads + 1 } false).k), Value.int IntKind.i64 ↑(endD { k := 3, slots := slots, slot := ↑slot, key := key, ptr := ptr, ahead := ahead, dn := false, is := is, loads := loads + 1 } false).slots, Value.int IntKind.i64 (endD { k := 3, slots := slots, slot := ↑slot, key := key, ptr := ptr, ahead := ahead, dn := false, is := is, loads := loads + 1 } false).slot, Value.int IntKind.i64 (stepD (endD { k := 3, slots := slots, slot := ↑slot, key := key, ptr := ptr, ahead := ahead, dn := false, is := is, loads := loads + 1 } false).k), Value.int IntKind.u64 ↑(endD { k := 3, slots := slots, slot := ↑slot, key := key, ptr := ptr, ahead := ahead, dn := false, is := is, loads := loads + 1 } false).key, Value.int IntKind.u64 ↑(endD { k := 3, slots := slots, slot := ↑slot, key := key, ptr := ptr, ahead := ahead, dn := false, is := is, loads := loads + 1 } false).ptr, Value.int IntKind.u64 ↑(endD { k := 3, slots := slots, slot := ↑slot, key := key, ptr := ptr, ahead := ahead, dn := false, is := is, loads := loads + 1 } false).ahead, Value.bool (endD { k := 3, slots := slots, slot := ↑slot, key := key, ptr := ptr, ahead := ahead, dn := false, is := is, loads := loads + 1 } false).dn, Value.bool (endD { k := 3, slots := slots, slot := ↑slot, key := key, ptr := ptr, ahead := ahead, dn := false, is := is, loads := loads + 1 } false).is, Value.int IntKind.i64 ↑(endD { k := 3, slots := slots, slot := ↑slot, key := key, ptr := ptr, ahead := ahead, dn := false, is := is, loads := loads + 1 } false).loads]) rfl rfl rfl rfl ra25 (by exact Nat.le_of_ble_eq_true rfl) (ones_of rfl) rfl rfl ?_
    intro Wa257 ra258 ba256 za259
    have hlba256 := ra25.lt
    replace ra258 : RowL Wa257 _ 33 [Value.int IntKind.i64 (wayD (endD { k := 3, slots := slots, slot := ↑slot, key := key, ptr := ptr, ahead := ahead, dn := false, is := is, loads := loads + 1 } false).k), Value.int IntKind.i64 ↑(endD { k := 3, slots := slots, slot := ↑slot, key := key, ptr := ptr, ahead := ahead, dn := false, is := is, loads := loads + 1 } false).slots, Value.int IntKind.i64 (endD { k := 3, slots := slots, slot := ↑slot, key := key, ptr := ptr, ahead := ahead, dn := false, is := is, loads := loads + 1 } false).slot, Value.int IntKind.i64 (stepD (endD { k := 3, slots := slots, slot := ↑slot, key := key, ptr := ptr, ahead := ahead, dn := false, is := is, loads := loads + 1 } false).k), Value.int IntKind.u64 ↑(endD { k := 3, slots := slots, slot := ↑slot, key := key, ptr := ptr, ahead := ahead, dn := false, is := is, loads := loads + 1 } false).key, Value.int IntKind.u64 ↑(endD { k := 3, slots := slots, slot := ↑slot, key := key, ptr := ptr, ahead := ahead, dn := false, is := is, loads := loads + 1 } false).ptr, Value.int IntKind.u64 ↑(endD { k := 3, slots := slots, slot := ↑slot, key := key, ptr := ptr, ahead := ahead, dn := false, is := is, loads := loads + 1 } false).ahead, Value.bool (endD { k := 3, slots := slots, slot := ↑slot, key := key, ptr := ptr, ahead := ahead, dn := false, is := is, loads := loads + 1 } false).dn, Value.bool (endD { k := 3, slots := slots, slot := ↑slot, key := key, ptr := ptr, ahead := ahead, dn := false, is := is, loads := loads + 1 } false).is, Value.int IntKind.i64 ↑(endD { k := 3, slots := slots, slot := ↑slot, key := key, ptr := ptr, ahead := ahead, dn := false, is := is, loads := loads + 1 } false).loads] := ra258
    clear ra25
    replace ba8 := ba8.grown ba256 ba8.size (by rintro k ⟨⟩; omega)
    replace q := q.grown ba256 q.size (by rintro k ⟨⟩; omega)
    replace ra11 := ra11.gr ba256 (by have := ra11.lt; omega)
    have ra25 := ra258
    clear ra258
    refine LL.nilS ?_
    refine CC.ret ?_
    refine EE.inR ?_
    refine EE.thenR ?_
    refine EE.thenR ?_
    refine EE.retC rfl rfl (lvNc (RowL.cells0 (by assumption)) (by rfl) (by rfl)) ?_
    exact ⟨rfl, q⟩
theorem dgive_8 (v : Nat) {slots slot key ptr ahead loads : Nat} {is : Bool} {w : World} (hs : slot < slots) (hS : slots ≤ 28) (hl : loads ≤ 1000000) : Calls Try.prog 16 #[.agg #[.int .i64 2, .int .i64 (slots : Int), .int .i64 (slot : Int), .int .i64 3, .int .u64 (key : Int), .int .u64 (ptr : Int), .int .u64 (ahead : Int), .bool false, .bool is, .int .i64 (loads : Int)], .int .u64 (v : Int)] w fun e w' => e = .returned (drA (giveD ⟨8, slots, (slot : Int), key, ptr, ahead, false, is, loads⟩ v)) ∧ Below w.heap.size w w' := by
  have q := Below.refl w.heap.size w
  by_cases hv : v = key
  · rw [show giveD ⟨8, slots, (slot : Int), key, ptr, ahead, false, is, loads⟩ v = endD ⟨8, slots, (slot : Int), key, ptr, ahead, false, is, loads + 1⟩ (decide (v = key)) from rfl, decide_eq_true hv]
    refine X.fn Try.func16 rfl (n := 81) rfl rfl ?_
    refine CC.seq ?_
    refine CC.region ?_
    refine LL.box [Value.int IntKind.i64 2, Value.int IntKind.i64 ↑slots, Value.int IntKind.i64 ↑slot, Value.int IntKind.i64 3, Value.int IntKind.u64 ↑key, Value.int IntKind.u64 ↑ptr, Value.int IntKind.u64 ↑ahead, Value.bool false, Value.bool is, Value.int IntKind.i64 ↑loads] rfl rfl rfl rfl rfl ?_
    intro W9 g10 eg10 r11 z12 b8
    replace q := q.trans (b8.mono q.size)
    have l21 := r11.lt
    refine LL.alloc ([Value.int IntKind.i64 0, Value.int IntKind.i64 0, Value.int IntKind.i64 0, Value.int IntKind.i64 0, Value.int IntKind.u64 0, Value.int IntKind.u64 0, Value.int IntKind.u64 0, Value.bool false, Value.bool false, Value.int IntKind.i64 0]) rfl rfl rfl rfl rfl ?_
    intro W23 g24 eg24 r25 z26 b22
    replace r11 := r11.up b22
    replace b8 := b8.trans (b22.mono b8.size)
    replace q := q.trans (b22.mono q.size)
    refine LL.nilS ?_
    refine CC.seq ?_
    refine CC.region ?_
    refine LL.val (R.field rfl rfl (I.fld rfl)) rfl rfl rfl ?_
    refine LL.val (R.load rfl rfl (I.ld1 rfl (RowL.cell r11 rfl))) rfl rfl rfl ?_
    refine LL.val (R.addNc rfl rfl rfl rfl (by omega)) rfl rfl rfl ?_
    refine LL.val (R.field rfl rfl (I.fld rfl)) rfl rfl rfl ?_
    refine LL.store rfl rfl rfl rfl r11 (by exact Nat.le_of_ble_eq_true rfl) rfl rfl rfl rfl ?_
    intro W73 r74 b72 z75
    have hlb72 := r11.lt
    replace r74 : RowL W73 _ 33 [Value.int IntKind.i64 2, Value.int IntKind.i64 ↑slots, Value.int IntKind.i64 ↑slot, Value.int IntKind.i64 3, Value.int IntKind.u64 ↑key, Value.int IntKind.u64 ↑ptr, Value.int IntKind.u64 ↑ahead, Value.bool false, Value.bool is, Value.int IntKind.i64 ↑(loads + 1)] := r74
    clear r11
    replace r25 := r25.gr b72 (by have := r25.lt; omega)
    replace b8 := b8.grown b72 b8.size (by rintro k ⟨⟩; omega)
    replace q := q.grown b72 q.size (by rintro k ⟨⟩; omega)
    have r11 := r74
    clear r74
    refine LL.nilS ?_
    refine CC.seq ?_
    refine CC.seq ?_
    refine CC.region ?_
    refine LL.val (R.field rfl rfl (I.fld rfl)) rfl rfl rfl ?_
    refine LL.val (R.load rfl rfl (I.ld1 rfl (RowL.cell r11 rfl))) rfl rfl rfl ?_
    refine LL.val (R.eqF rfl rfl rfl (by omega)) rfl rfl rfl ?_
    refine LL.nilS ?_
    refine CC.no rfl ?_
    refine CC.skip ?_
    refine EE.thenN ?_
    refine CC.seq ?_
    refine CC.seq ?_
    refine CC.region ?_
    refine LL.val (R.field rfl rfl (I.fld rfl)) rfl rfl rfl ?_
    refine LL.val (R.load rfl rfl (I.ld1 rfl (RowL.cell r11 rfl))) rfl rfl rfl ?_
    refine LL.nilS ?_
    refine CC.block ?_
    refine CC.seq ?_
    refine CC.region ?_
    refine LL.val (R.eqF rfl rfl rfl (by omega)) rfl rfl rfl ?_
    refine LL.val (R.assign rfl rfl) rfl rfl rfl ?_
    refine LL.nilS ?_
    refine CC.no rfl ?_
    refine CC.seq ?_
    refine CC.region ?_
    refine LL.val (R.eqF rfl rfl rfl (by omega)) rfl rfl rfl ?_
    refine LL.val (R.assign rfl rfl) rfl rfl rfl ?_
    refine LL.nilS ?_
    refine CC.no rfl ?_
    refine CC.seq ?_
    refine CC.region ?_
    refine LL.val (R.eqF rfl rfl rfl (by omega)) rfl rfl rfl ?_
    refine LL.val (R.assign rfl rfl) rfl rfl rfl ?_
    refine LL.nilS ?_
    refine CC.no rfl ?_
    refine CC.skip ?_
    refine EE.inN ?_
    refine EE.thenN ?_
    refine CC.seq ?_
    refine CC.region ?_
    refine LL.val (R.load rfl rfl (I.ldNc (vs := [Value.int IntKind.i64 2, Value.int IntKind.i64 ↑slots, Value.int IntKind.i64 ↑slot, Value.int IntKind.i64 3, Value.int IntKind.u64 ↑key, Value.int IntKind.u64 ↑ptr, Value.int IntKind.u64 ↑ahead, Value.bool false, Value.bool is, Value.int IntKind.i64 ↑(loads + 1)]) (RowL.cells r11 rfl) (by rfl) (by rfl))) rfl rfl rfl ?_
    refine LL.val (R.move rfl rfl) rfl rfl rfl ?_
    refine LL.val (R.field rfl rfl (I.fld rfl)) rfl rfl rfl ?_
    refine LL.val (R.load rfl rfl (I.ld1 rfl (RowL.cell r11 rfl))) rfl rfl rfl ?_
    refine LL.val (R.eqT rfl rfl rfl (by omega)) rfl rfl rfl ?_
    have l224 := r25.lt
    have l225 := r11.lt
    (refine LL.call (R.call rfl rfl rfl) rfl rfl rfl (endD_8 true hs hS) ?_; rintro e W223 ⟨rfl, b220⟩; refine ⟨_, rfl, ?_⟩)
    have zb220 := b220.size
    replace r25 := r25.up b220
    replace b8 := b8.trans (b220.mono b8.size)
    replace q := q.trans (b220.mono q.size)
    replace r11 := r11.up b220
    refine LL.storeN (vs := [Value.int IntKind.i64 (wayD (endD { k := 8, slots := slots, slot := ↑slot, key := key, ptr := ptr, ahead := ahead, dn := false, is := is, loads := loads + 1 } true).k), Value.int IntKind.i64 ↑(endD { k := 8, slots := slots, slot := ↑slot, key := key, ptr := ptr, ahead := ahead, dn := false, is := is, loads := loads + 1 } true).slots, Value.int IntKind.i64 (endD { k := 8, slots := slots, slot := ↑slot, key := key, ptr := ptr, ahead := ahead, dn := false, is := is, loads := loads + 1 } true).slot, Value.int IntKind.i64 (stepD (endD { k := 8, slots := slots, slot := ↑slot, key := key, ptr := ptr, ahead := ahead, dn := false, is := is, loads := loads + 1 } true).k), Value.int IntKind.u64 ↑(endD { k := 8, slots := slots, slot := ↑slot, key := key, ptr := ptr, ahead := ahead, dn := false, is := is, loads := loads + 1 } true).key, Value.int IntKind.u64 ↑(endD { k := 8, slots := slots, slot := ↑slot, key := key, ptr := ptr, ahead := ahead, dn := false, is := is, loads := loads + 1 } true).ptr, Value.int IntKind.u64 ↑(endD { k := 8, slots := slots, slot := ↑slot, key := key, ptr := ptr, ahead := ahead, dn := false, is := is, loads := loads + 1 } true).ahead, Value.bool (endD { k := 8, slots := slots, slot := ↑slot, key := key, ptr := ptr, ahead := ahead, dn := false, is := is, loads := loads + 1 } true).dn, Value.bool (endD { k := 8, slots := slots, slot := ↑slot, key := key, ptr := ptr, ahead := ahead, dn := false, is := is, loads := loads + 1 } true).is, Value.int IntKind.i64 ↑(endD { k := 8, slots := slots, slot := ↑slot, key := key, ptr := ptr, ahead := ahead, dn := false, is := is, loads := loads + 1 } true).loads]) rfl rfl rfl rfl r25 (by exact Nat.le_of_ble_eq_true rfl) (ones_of rfl) rfl rfl ?_
    intro W239 r240 b238 z241
    have hlb238 := r25.lt
    replace r240 : RowL W239 _ 33 [Value.int IntKind.i64 (wayD (endD { k := 8, slots := slots, slot := ↑slot, key := key, ptr := ptr, ahead := ahead, dn := false, is := is, loads := loads + 1 } true).k), Value.int IntKind.i64 ↑(endD { k := 8, slots := slots, slot := ↑slot, key := key, ptr := ptr, ahead := ahead, dn := false, is := is, loads := loads + 1 } true).slots, Value.int IntKind.i64 (endD { k := 8, slots := slots, slot := ↑slot, key := key, ptr := ptr, ahead := ahead, dn := false, is := is, loads := loads + 1 } true).slot, Value.int IntKind.i64 (stepD (endD { k := 8, slots := slots, slot := ↑slot, key := key, ptr := ptr, ahead := ahead, dn := false, is := is, loads := loads + 1 } true).k), Value.int IntKind.u64 ↑(endD { k := 8, slots := slots, slot := ↑slot, key := key, ptr := ptr, ahead := ahead, dn := false, is := is, loads := loads + 1 } true).key, Value.int IntKind.u64 ↑(endD { k := 8, slots := slots, slot := ↑slot, key := key, ptr := ptr, ahead := ahead, dn := false, is := is, loads := loads + 1 } true).ptr, Value.int IntKind.u64 ↑(endD { k := 8, slots := slots, slot := ↑slot, key := key, ptr := ptr, ahead := ahead, dn := false, is := is, loads := loads + 1 } true).ahead, Value.bool (endD { k := 8, slots := slots, slot := ↑slot, key := key, ptr := ptr, ahead := ahead, dn := false, is := is, loads := loads + 1 } true).dn, Value.bool (endD { k := 8, slots := slots, slot := ↑slot, key := key, ptr := ptr, ahead := ahead, dn := false, is := is, loads := loads + 1 } true).is, Value.int IntKind.i64 ↑(endD { k := 8, slots := slots, slot := ↑slot, key := key, ptr := ptr, ahead := ahead, dn := false, is := is, loads := loads + 1 } true).loads] := r240
    clear r25
    replace b8 := b8.grown b238 b8.size (by rintro k ⟨⟩; omega)
    replace q := q.grown b238 q.size (by rintro k ⟨⟩; omega)
    replace r11 := r11.gr b238 (by have := r11.lt; omega)
    have r25 := r240
    clear r240
    refine LL.nilS ?_
    refine CC.ret ?_
    refine EE.retC rfl rfl (lvNc (RowL.cells0 (by assumption)) (by rfl) (by rfl)) ?_
    exact ⟨rfl, q⟩
  · rw [show giveD ⟨8, slots, (slot : Int), key, ptr, ahead, false, is, loads⟩ v = endD ⟨8, slots, (slot : Int), key, ptr, ahead, false, is, loads + 1⟩ (decide (v = key)) from rfl, decide_eq_false hv]
    refine X.fn Try.func16 rfl (n := 81) rfl rfl ?_
    refine CC.seq ?_
    refine CC.region ?_
    refine LL.box [Value.int IntKind.i64 2, Value.int IntKind.i64 ↑slots, Value.int IntKind.i64 ↑slot, Value.int IntKind.i64 3, Value.int IntKind.u64 ↑key, Value.int IntKind.u64 ↑ptr, Value.int IntKind.u64 ↑ahead, Value.bool false, Value.bool is, Value.int IntKind.i64 ↑loads] rfl rfl rfl rfl rfl ?_
    intro Wa9 ga10 ega10 ra11 za12 ba8
    replace q := q.trans (ba8.mono q.size)
    have la21 := ra11.lt
    refine LL.alloc ([Value.int IntKind.i64 0, Value.int IntKind.i64 0, Value.int IntKind.i64 0, Value.int IntKind.i64 0, Value.int IntKind.u64 0, Value.int IntKind.u64 0, Value.int IntKind.u64 0, Value.bool false, Value.bool false, Value.int IntKind.i64 0]) rfl rfl rfl rfl rfl ?_
    intro Wa23 ga24 ega24 ra25 za26 ba22
    replace ra11 := ra11.up ba22
    replace ba8 := ba8.trans (ba22.mono ba8.size)
    replace q := q.trans (ba22.mono q.size)
    refine LL.nilS ?_
    refine CC.seq ?_
    refine CC.region ?_
    refine LL.val (R.field rfl rfl (I.fld rfl)) rfl rfl rfl ?_
    refine LL.val (R.load rfl rfl (I.ld1 rfl (RowL.cell ra11 rfl))) rfl rfl rfl ?_
    refine LL.val (R.addNc rfl rfl rfl rfl (by omega)) rfl rfl rfl ?_
    refine LL.val (R.field rfl rfl (I.fld rfl)) rfl rfl rfl ?_
    refine LL.store rfl rfl rfl rfl ra11 (by exact Nat.le_of_ble_eq_true rfl) rfl rfl rfl rfl ?_
    intro Wa73 ra74 ba72 za75
    have hlba72 := ra11.lt
    replace ra74 : RowL Wa73 _ 33 [Value.int IntKind.i64 2, Value.int IntKind.i64 ↑slots, Value.int IntKind.i64 ↑slot, Value.int IntKind.i64 3, Value.int IntKind.u64 ↑key, Value.int IntKind.u64 ↑ptr, Value.int IntKind.u64 ↑ahead, Value.bool false, Value.bool is, Value.int IntKind.i64 ↑(loads + 1)] := ra74
    clear ra11
    replace ra25 := ra25.gr ba72 (by have := ra25.lt; omega)
    replace ba8 := ba8.grown ba72 ba8.size (by rintro k ⟨⟩; omega)
    replace q := q.grown ba72 q.size (by rintro k ⟨⟩; omega)
    have ra11 := ra74
    clear ra74
    refine LL.nilS ?_
    refine CC.seq ?_
    refine CC.seq ?_
    refine CC.region ?_
    refine LL.val (R.field rfl rfl (I.fld rfl)) rfl rfl rfl ?_
    refine LL.val (R.load rfl rfl (I.ld1 rfl (RowL.cell ra11 rfl))) rfl rfl rfl ?_
    refine LL.val (R.eqF rfl rfl rfl (by omega)) rfl rfl rfl ?_
    refine LL.nilS ?_
    refine CC.no rfl ?_
    refine CC.skip ?_
    refine EE.thenN ?_
    refine CC.seq ?_
    refine CC.seq ?_
    refine CC.region ?_
    refine LL.val (R.field rfl rfl (I.fld rfl)) rfl rfl rfl ?_
    refine LL.val (R.load rfl rfl (I.ld1 rfl (RowL.cell ra11 rfl))) rfl rfl rfl ?_
    refine LL.nilS ?_
    refine CC.block ?_
    refine CC.seq ?_
    refine CC.region ?_
    refine LL.val (R.eqF rfl rfl rfl (by omega)) rfl rfl rfl ?_
    refine LL.val (R.assign rfl rfl) rfl rfl rfl ?_
    refine LL.nilS ?_
    refine CC.no rfl ?_
    refine CC.seq ?_
    refine CC.region ?_
    refine LL.val (R.eqF rfl rfl rfl (by omega)) rfl rfl rfl ?_
    refine LL.val (R.assign rfl rfl) rfl rfl rfl ?_
    refine LL.nilS ?_
    refine CC.no rfl ?_
    refine CC.seq ?_
    refine CC.region ?_
    refine LL.val (R.eqF rfl rfl rfl (by omega)) rfl rfl rfl ?_
    refine LL.val (R.assign rfl rfl) rfl rfl rfl ?_
    refine LL.nilS ?_
    refine CC.no rfl ?_
    refine CC.skip ?_
    refine EE.inN ?_
    refine EE.thenN ?_
    refine CC.seq ?_
    refine CC.region ?_
    refine LL.val (R.load rfl rfl (I.ldNc (vs := [Value.int IntKind.i64 2, Value.int IntKind.i64 ↑slots, Value.int IntKind.i64 ↑slot, Value.int IntKind.i64 3, Value.int IntKind.u64 ↑key, Value.int IntKind.u64 ↑ptr, Value.int IntKind.u64 ↑ahead, Value.bool false, Value.bool is, Value.int IntKind.i64 ↑(loads + 1)]) (RowL.cells ra11 rfl) (by rfl) (by rfl))) rfl rfl rfl ?_
    refine LL.val (R.move rfl rfl) rfl rfl rfl ?_
    refine LL.val (R.field rfl rfl (I.fld rfl)) rfl rfl rfl ?_
    refine LL.val (R.load rfl rfl (I.ld1 rfl (RowL.cell ra11 rfl))) rfl rfl rfl ?_
    refine LL.val (R.eqF rfl rfl rfl (by omega)) rfl rfl rfl ?_
    have la224 := ra25.lt
    have la225 := ra11.lt
    (refine LL.call (R.call rfl rfl rfl) rfl rfl rfl (endD_8 false hs hS) ?_; rintro e Wa223 ⟨rfl, ba220⟩; refine ⟨_, rfl, ?_⟩)
    have zba220 := ba220.size
    replace ra25 := ra25.up ba220
    replace ba8 := ba8.trans (ba220.mono ba8.size)
    replace q := q.trans (ba220.mono q.size)
    replace ra11 := ra11.up ba220
    refine LL.storeN (vs := [Value.int IntKind.i64 (wayD (endD { k := 8, slots := slots, slot := ↑slot, key := key, ptr := ptr, ahead := ahead, dn := false, is := is, loads := loads + 1 } false).k), Value.int IntKind.i64 ↑(endD { k := 8, slots := slots, slot := ↑slot, key := key, ptr := ptr, ahead := ahead, dn := false, is := is, loads := loads + 1 } false).slots, Value.int IntKind.i64 (endD { k := 8, slots := slots, slot := ↑slot, key := key, ptr := ptr, ahead := ahead, dn := false, is := is, loads := loads + 1 } false).slot, Value.int IntKind.i64 (stepD (endD { k := 8, slots := slots, slot := ↑slot, key := key, ptr := ptr, ahead := ahead, dn := false, is := is, loads := loads + 1 } false).k), Value.int IntKind.u64 ↑(endD { k := 8, slots := slots, slot := ↑slot, key := key, ptr := ptr, ahead := ahead, dn := false, is := is, loads := loads + 1 } false).key, Value.int IntKind.u64 ↑(endD { k := 8, slots := slots, slot := ↑slot, key := key, ptr := ptr, ahead := ahead, dn := false, is := is, loads := loads + 1 } false).ptr, Value.int IntKind.u64 ↑(endD { k := 8, slots := slots, slot := ↑slot, key := key, ptr := ptr, ahead := ahead, dn := false, is := is, loads := loads + 1 } false).ahead, Value.bool (endD { k := 8, slots := slots, slot := ↑slot, key := key, ptr := ptr, ahead := ahead, dn := false, is := is, loads := loads + 1 } false).dn, Value.bool (endD { k := 8, slots := slots, slot := ↑slot, key := key, ptr := ptr, ahead := ahead, dn := false, is := is, loads := loads + 1 } false).is, Value.int IntKind.i64 ↑(endD { k := 8, slots := slots, slot := ↑slot, key := key, ptr := ptr, ahead := ahead, dn := false, is := is, loads := loads + 1 } false).loads]) rfl rfl rfl rfl ra25 (by exact Nat.le_of_ble_eq_true rfl) (ones_of rfl) rfl rfl ?_
    intro Wa239 ra240 ba238 za241
    have hlba238 := ra25.lt
    replace ra240 : RowL Wa239 _ 33 [Value.int IntKind.i64 (wayD (endD { k := 8, slots := slots, slot := ↑slot, key := key, ptr := ptr, ahead := ahead, dn := false, is := is, loads := loads + 1 } false).k), Value.int IntKind.i64 ↑(endD { k := 8, slots := slots, slot := ↑slot, key := key, ptr := ptr, ahead := ahead, dn := false, is := is, loads := loads + 1 } false).slots, Value.int IntKind.i64 (endD { k := 8, slots := slots, slot := ↑slot, key := key, ptr := ptr, ahead := ahead, dn := false, is := is, loads := loads + 1 } false).slot, Value.int IntKind.i64 (stepD (endD { k := 8, slots := slots, slot := ↑slot, key := key, ptr := ptr, ahead := ahead, dn := false, is := is, loads := loads + 1 } false).k), Value.int IntKind.u64 ↑(endD { k := 8, slots := slots, slot := ↑slot, key := key, ptr := ptr, ahead := ahead, dn := false, is := is, loads := loads + 1 } false).key, Value.int IntKind.u64 ↑(endD { k := 8, slots := slots, slot := ↑slot, key := key, ptr := ptr, ahead := ahead, dn := false, is := is, loads := loads + 1 } false).ptr, Value.int IntKind.u64 ↑(endD { k := 8, slots := slots, slot := ↑slot, key := key, ptr := ptr, ahead := ahead, dn := false, is := is, loads := loads + 1 } false).ahead, Value.bool (endD { k := 8, slots := slots, slot := ↑slot, key := key, ptr := ptr, ahead := ahead, dn := false, is := is, loads := loads + 1 } false).dn, Value.bool (endD { k := 8, slots := slots, slot := ↑slot, key := key, ptr := ptr, ahead := ahead, dn := false, is := is, loads := loads + 1 } false).is, Value.int IntKind.i64 ↑(endD { k := 8, slots := slots, slot := ↑slot, key := key, ptr := ptr, ahead := ahead, dn := false, is := is, loads := loads + 1 } false).loads] := ra240
    clear ra25
    replace ba8 := ba8.grown ba238 ba8.size (by rintro k ⟨⟩; omega)
    replace q := q.grown ba238 q.size (by rintro k ⟨⟩; omega)
    replace ra11 := ra11.gr ba238 (by have := ra11.lt; omega)
    have ra25 := ra240
    clear ra240
    refine LL.nilS ?_
    refine CC.ret ?_
    refine EE.retC rfl rfl (lvNc (RowL.cells0 (by assumption)) (by rfl) (by rfl)) ?_
    exact ⟨rfl, q⟩
theorem dgive_4 (v : Nat) {slots slot key ptr ahead loads : Nat} {is : Bool} {w : World} (hs : slot < slots) (hS : slots ≤ 28) (hl : loads ≤ 1000000) : Calls Try.prog 16 #[.agg #[.int .i64 1, .int .i64 (slots : Int), .int .i64 (slot : Int), .int .i64 4, .int .u64 (key : Int), .int .u64 (ptr : Int), .int .u64 (ahead : Int), .bool false, .bool is, .int .i64 (loads : Int)], .int .u64 (v : Int)] w fun e w' => e = .returned (drA (giveD ⟨4, slots, (slot : Int), key, ptr, ahead, false, is, loads⟩ v)) ∧ Below w.heap.size w w' := by
  have q := Below.refl w.heap.size w
  refine X.fn Try.func16 rfl (n := 81) rfl rfl ?_
  refine CC.seq ?_
  refine CC.region ?_
  refine LL.box [Value.int IntKind.i64 1, Value.int IntKind.i64 ↑slots, Value.int IntKind.i64 ↑slot, Value.int IntKind.i64 4, Value.int IntKind.u64 ↑key, Value.int IntKind.u64 ↑ptr, Value.int IntKind.u64 ↑ahead, Value.bool false, Value.bool is, Value.int IntKind.i64 ↑loads] rfl rfl rfl rfl rfl ?_
  intro W9 g10 eg10 r11 z12 b8
  replace q := q.trans (b8.mono q.size)
  have l21 := r11.lt
  refine LL.alloc ([Value.int IntKind.i64 0, Value.int IntKind.i64 0, Value.int IntKind.i64 0, Value.int IntKind.i64 0, Value.int IntKind.u64 0, Value.int IntKind.u64 0, Value.int IntKind.u64 0, Value.bool false, Value.bool false, Value.int IntKind.i64 0]) rfl rfl rfl rfl rfl ?_
  intro W23 g24 eg24 r25 z26 b22
  replace r11 := r11.up b22
  replace b8 := b8.trans (b22.mono b8.size)
  replace q := q.trans (b22.mono q.size)
  refine LL.nilS ?_
  refine CC.seq ?_
  refine CC.region ?_
  refine LL.val (R.field rfl rfl (I.fld rfl)) rfl rfl rfl ?_
  refine LL.val (R.load rfl rfl (I.ld1 rfl (RowL.cell r11 rfl))) rfl rfl rfl ?_
  refine LL.val (R.addNc rfl rfl rfl rfl (by omega)) rfl rfl rfl ?_
  refine LL.val (R.field rfl rfl (I.fld rfl)) rfl rfl rfl ?_
  refine LL.store rfl rfl rfl rfl r11 (by exact Nat.le_of_ble_eq_true rfl) rfl rfl rfl rfl ?_
  intro W73 r74 b72 z75
  have hlb72 := r11.lt
  replace r74 : RowL W73 _ 33 [Value.int IntKind.i64 1, Value.int IntKind.i64 ↑slots, Value.int IntKind.i64 ↑slot, Value.int IntKind.i64 4, Value.int IntKind.u64 ↑key, Value.int IntKind.u64 ↑ptr, Value.int IntKind.u64 ↑ahead, Value.bool false, Value.bool is, Value.int IntKind.i64 ↑(loads + 1)] := r74
  clear r11
  replace r25 := r25.gr b72 (by have := r25.lt; omega)
  replace b8 := b8.grown b72 b8.size (by rintro k ⟨⟩; omega)
  replace q := q.grown b72 q.size (by rintro k ⟨⟩; omega)
  have r11 := r74
  clear r74
  refine LL.nilS ?_
  refine CC.seq ?_
  refine CC.seq ?_
  refine CC.region ?_
  refine LL.val (R.field rfl rfl (I.fld rfl)) rfl rfl rfl ?_
  refine LL.val (R.load rfl rfl (I.ld1 rfl (RowL.cell r11 rfl))) rfl rfl rfl ?_
  refine LL.val (R.eqT rfl rfl rfl (by omega)) rfl rfl rfl ?_
  refine LL.nilS ?_
  refine CC.yes rfl ?_
  refine CC.seq ?_
  refine CC.seq ?_
  refine CC.region ?_
  refine LL.val (R.field rfl rfl (I.fld rfl)) rfl rfl rfl ?_
  refine LL.val (R.load rfl rfl (I.ld1 rfl (RowL.cell r11 rfl))) rfl rfl rfl ?_
  refine LL.nilS ?_
  refine CC.block ?_
  refine CC.seq ?_
  refine CC.region ?_
  refine LL.val (R.eqF rfl rfl rfl (by omega)) rfl rfl rfl ?_
  refine LL.val (R.assign rfl rfl) rfl rfl rfl ?_
  refine LL.nilS ?_
  refine CC.no rfl ?_
  refine CC.seq ?_
  refine CC.region ?_
  refine LL.val (R.eqF rfl rfl rfl (by omega)) rfl rfl rfl ?_
  refine LL.val (R.assign rfl rfl) rfl rfl rfl ?_
  refine LL.nilS ?_
  refine CC.no rfl ?_
  refine CC.seq ?_
  refine CC.region ?_
  refine LL.val (R.eqF rfl rfl rfl (by omega)) rfl rfl rfl ?_
  refine LL.val (R.assign rfl rfl) rfl rfl rfl ?_
  refine LL.nilS ?_
  refine CC.no rfl ?_
  refine CC.seq ?_
  refine CC.region ?_
  refine LL.val (R.eqF rfl rfl rfl (by omega)) rfl rfl rfl ?_
  refine LL.val (R.assign rfl rfl) rfl rfl rfl ?_
  refine LL.nilS ?_
  refine CC.no rfl ?_
  refine CC.skip ?_
  refine EE.inN ?_
  refine EE.thenN ?_
  refine CC.seq ?_
  refine CC.region ?_
  refine LL.val (R.move rfl rfl) rfl rfl rfl ?_
  refine LL.val (R.field rfl rfl (I.fld rfl)) rfl rfl rfl ?_
  refine LL.store rfl rfl rfl rfl r11 (by exact Nat.le_of_ble_eq_true rfl) rfl rfl rfl rfl ?_
  intro W221 r222 b220 z223
  have hlb220 := r11.lt
  replace r222 : RowL W221 _ 33 [Value.int IntKind.i64 1, Value.int IntKind.i64 ↑slots, Value.int IntKind.i64 ↑slot, Value.int IntKind.i64 4, Value.int IntKind.u64 ↑key, Value.int IntKind.u64 ↑v, Value.int IntKind.u64 ↑ahead, Value.bool false, Value.bool is, Value.int IntKind.i64 ↑(loads + 1)] := r222
  clear r11
  replace r25 := r25.gr b220 (by have := r25.lt; omega)
  replace b8 := b8.grown b220 b8.size (by rintro k ⟨⟩; omega)
  replace q := q.grown b220 q.size (by rintro k ⟨⟩; omega)
  have r11 := r222
  clear r222
  refine LL.nilS ?_
  refine CC.seq ?_
  refine CC.region ?_
  refine LL.val (R.load rfl rfl (I.ldNc (vs := [Value.int IntKind.i64 1, Value.int IntKind.i64 ↑slots, Value.int IntKind.i64 ↑slot, Value.int IntKind.i64 4, Value.int IntKind.u64 ↑key, Value.int IntKind.u64 ↑v, Value.int IntKind.u64 ↑ahead, Value.bool false, Value.bool is, Value.int IntKind.i64 ↑(loads + 1)]) (RowL.cells r11 rfl) (by rfl) (by rfl))) rfl rfl rfl ?_
  have l237 := r25.lt
  have l238 := r11.lt
  (refine LL.call (R.call rfl rfl rfl) rfl rfl rfl (endD_4 false hs hS) ?_; rintro e W236 ⟨rfl, b233⟩; refine ⟨_, rfl, ?_⟩)
  have zb233 := b233.size
  replace r25 := r25.up b233
  replace b8 := b8.trans (b233.mono b8.size)
  replace q := q.trans (b233.mono q.size)
  replace r11 := r11.up b233
  refine LL.storeN (vs := [Value.int IntKind.i64 (wayD (endD { k := 4, slots := slots, slot := ↑slot, key := key, ptr := v, ahead := ahead, dn := false, is := is, loads := loads + 1 } false).k), Value.int IntKind.i64 ↑(endD { k := 4, slots := slots, slot := ↑slot, key := key, ptr := v, ahead := ahead, dn := false, is := is, loads := loads + 1 } false).slots, Value.int IntKind.i64 (endD { k := 4, slots := slots, slot := ↑slot, key := key, ptr := v, ahead := ahead, dn := false, is := is, loads := loads + 1 } false).slot, Value.int IntKind.i64 (stepD (endD { k := 4, slots := slots, slot := ↑slot, key := key, ptr := v, ahead := ahead, dn := false, is := is, loads := loads + 1 } false).k), Value.int IntKind.u64 ↑(endD { k := 4, slots := slots, slot := ↑slot, key := key, ptr := v, ahead := ahead, dn := false, is := is, loads := loads + 1 } false).key, Value.int IntKind.u64 ↑(endD { k := 4, slots := slots, slot := ↑slot, key := key, ptr := v, ahead := ahead, dn := false, is := is, loads := loads + 1 } false).ptr, Value.int IntKind.u64 ↑(endD { k := 4, slots := slots, slot := ↑slot, key := key, ptr := v, ahead := ahead, dn := false, is := is, loads := loads + 1 } false).ahead, Value.bool (endD { k := 4, slots := slots, slot := ↑slot, key := key, ptr := v, ahead := ahead, dn := false, is := is, loads := loads + 1 } false).dn, Value.bool (endD { k := 4, slots := slots, slot := ↑slot, key := key, ptr := v, ahead := ahead, dn := false, is := is, loads := loads + 1 } false).is, Value.int IntKind.i64 ↑(endD { k := 4, slots := slots, slot := ↑slot, key := key, ptr := v, ahead := ahead, dn := false, is := is, loads := loads + 1 } false).loads]) rfl rfl rfl rfl r25 (by exact Nat.le_of_ble_eq_true rfl) (ones_of rfl) rfl rfl ?_
  intro W252 r253 b251 z254
  have hlb251 := r25.lt
  replace r253 : RowL W252 _ 33 [Value.int IntKind.i64 (wayD (endD { k := 4, slots := slots, slot := ↑slot, key := key, ptr := v, ahead := ahead, dn := false, is := is, loads := loads + 1 } false).k), Value.int IntKind.i64 ↑(endD { k := 4, slots := slots, slot := ↑slot, key := key, ptr := v, ahead := ahead, dn := false, is := is, loads := loads + 1 } false).slots, Value.int IntKind.i64 (endD { k := 4, slots := slots, slot := ↑slot, key := key, ptr := v, ahead := ahead, dn := false, is := is, loads := loads + 1 } false).slot, Value.int IntKind.i64 (stepD (endD { k := 4, slots := slots, slot := ↑slot, key := key, ptr := v, ahead := ahead, dn := false, is := is, loads := loads + 1 } false).k), Value.int IntKind.u64 ↑(endD { k := 4, slots := slots, slot := ↑slot, key := key, ptr := v, ahead := ahead, dn := false, is := is, loads := loads + 1 } false).key, Value.int IntKind.u64 ↑(endD { k := 4, slots := slots, slot := ↑slot, key := key, ptr := v, ahead := ahead, dn := false, is := is, loads := loads + 1 } false).ptr, Value.int IntKind.u64 ↑(endD { k := 4, slots := slots, slot := ↑slot, key := key, ptr := v, ahead := ahead, dn := false, is := is, loads := loads + 1 } false).ahead, Value.bool (endD { k := 4, slots := slots, slot := ↑slot, key := key, ptr := v, ahead := ahead, dn := false, is := is, loads := loads + 1 } false).dn, Value.bool (endD { k := 4, slots := slots, slot := ↑slot, key := key, ptr := v, ahead := ahead, dn := false, is := is, loads := loads + 1 } false).is, Value.int IntKind.i64 ↑(endD { k := 4, slots := slots, slot := ↑slot, key := key, ptr := v, ahead := ahead, dn := false, is := is, loads := loads + 1 } false).loads] := r253
  clear r25
  replace b8 := b8.grown b251 b8.size (by rintro k ⟨⟩; omega)
  replace q := q.grown b251 q.size (by rintro k ⟨⟩; omega)
  replace r11 := r11.gr b251 (by have := r11.lt; omega)
  have r25 := r253
  clear r253
  refine LL.nilS ?_
  refine CC.ret ?_
  refine EE.thenR ?_
  refine EE.retC rfl rfl (lvNc (RowL.cells0 (by assumption)) (by rfl) (by rfl)) ?_
  exact ⟨rfl, q⟩
theorem dgive_5 (v : Nat) {slots slot key ptr ahead loads : Nat} {is : Bool} {w : World} (hs : slot < slots) (hS : slots ≤ 28) (hl : loads ≤ 1000000) : Calls Try.prog 16 #[.agg #[.int .i64 2, .int .i64 (slots : Int), .int .i64 (slot : Int), .int .i64 0, .int .u64 (key : Int), .int .u64 (ptr : Int), .int .u64 (ahead : Int), .bool false, .bool is, .int .i64 (loads : Int)], .int .u64 (v : Int)] w fun e w' => e = .returned (drA (giveD ⟨5, slots, (slot : Int), key, ptr, ahead, false, is, loads⟩ v)) ∧ Below w.heap.size w w' := by
  have q := Below.refl w.heap.size w
  by_cases hv : v = key
  · rw [show giveD ⟨5, slots, (slot : Int), key, ptr, ahead, false, is, loads⟩ v = ⟨6, slots, (slot : Int), key, ptr, ahead, false, is, loads + 1⟩ from if_pos hv]
    refine X.fn Try.func16 rfl (n := 81) rfl rfl ?_
    refine CC.seq ?_
    refine CC.region ?_
    refine LL.box [Value.int IntKind.i64 2, Value.int IntKind.i64 ↑slots, Value.int IntKind.i64 ↑slot, Value.int IntKind.i64 0, Value.int IntKind.u64 ↑key, Value.int IntKind.u64 ↑ptr, Value.int IntKind.u64 ↑ahead, Value.bool false, Value.bool is, Value.int IntKind.i64 ↑loads] rfl rfl rfl rfl rfl ?_
    intro W2 g3 eg3 r4 z5 b1
    replace q := q.trans (b1.mono q.size)
    have l6 := r4.lt
    refine LL.alloc ([Value.int IntKind.i64 0, Value.int IntKind.i64 0, Value.int IntKind.i64 0, Value.int IntKind.i64 0, Value.int IntKind.u64 0, Value.int IntKind.u64 0, Value.int IntKind.u64 0, Value.bool false, Value.bool false, Value.int IntKind.i64 0]) rfl rfl rfl rfl rfl ?_
    intro W8 g9 eg9 r10 z11 b7
    replace r4 := r4.up b7
    replace b1 := b1.trans (b7.mono b1.size)
    replace q := q.trans (b7.mono q.size)
    refine LL.nilS ?_
    refine CC.seq ?_
    refine CC.region ?_
    refine LL.val (R.field rfl rfl (I.fld rfl)) rfl rfl rfl ?_
    refine LL.val (R.load rfl rfl (I.ld1 rfl (RowL.cell r4 rfl))) rfl rfl rfl ?_
    refine LL.val (R.addNc rfl rfl rfl rfl (by omega)) rfl rfl rfl ?_
    refine LL.val (R.field rfl rfl (I.fld rfl)) rfl rfl rfl ?_
    refine LL.store rfl rfl rfl rfl r4 (by exact Nat.le_of_ble_eq_true rfl) rfl rfl rfl rfl ?_
    intro W13 r14 b12 z15
    have hlb12 := r4.lt
    replace r14 : RowL W13 _ 33 [Value.int IntKind.i64 2, Value.int IntKind.i64 ↑slots, Value.int IntKind.i64 ↑slot, Value.int IntKind.i64 0, Value.int IntKind.u64 ↑key, Value.int IntKind.u64 ↑ptr, Value.int IntKind.u64 ↑ahead, Value.bool false, Value.bool is, Value.int IntKind.i64 ↑(loads + 1)] := r14
    clear r4
    replace r10 := r10.gr b12 (by have := r10.lt; omega)
    replace b1 := b1.grown b12 b1.size (by rintro k ⟨⟩; omega)
    replace q := q.grown b12 q.size (by rintro k ⟨⟩; omega)
    have r4 := r14
    clear r14
    refine LL.nilS ?_
    refine CC.seq ?_
    refine CC.seq ?_
    refine CC.region ?_
    refine LL.val (R.field rfl rfl (I.fld rfl)) rfl rfl rfl ?_
    refine LL.val (R.load rfl rfl (I.ld1 rfl (RowL.cell r4 rfl))) rfl rfl rfl ?_
    refine LL.val (R.eqF rfl rfl rfl (by omega)) rfl rfl rfl ?_
    refine LL.nilS ?_
    refine CC.no rfl ?_
    refine CC.skip ?_
    refine EE.thenN ?_
    refine CC.seq ?_
    refine CC.seq ?_
    refine CC.region ?_
    refine LL.val (R.field rfl rfl (I.fld rfl)) rfl rfl rfl ?_
    refine LL.val (R.load rfl rfl (I.ld1 rfl (RowL.cell r4 rfl))) rfl rfl rfl ?_
    refine LL.nilS ?_
    refine CC.block ?_
    refine CC.seq ?_
    refine CC.region ?_
    refine LL.val (R.eqT rfl rfl rfl (by omega)) rfl rfl rfl ?_
    refine LL.val (R.assign rfl rfl) rfl rfl rfl ?_
    refine LL.nilS ?_
    refine CC.yes rfl ?_
    refine CC.seq ?_
    refine CC.seq ?_
    refine CC.region ?_
    refine LL.val (R.move rfl rfl) rfl rfl rfl ?_
    refine LL.val (R.field rfl rfl (I.fld rfl)) rfl rfl rfl ?_
    refine LL.val (R.load rfl rfl (I.ld1 rfl (RowL.cell r4 rfl))) rfl rfl rfl ?_
    refine LL.val (R.neF rfl rfl rfl (by omega)) rfl rfl rfl ?_
    refine LL.nilS ?_
    refine CC.no rfl ?_
    refine CC.skip ?_
    refine EE.thenN ?_
    refine CC.seq ?_
    refine CC.region ?_
    refine LL.val (R.field rfl rfl (I.fld rfl)) rfl rfl rfl ?_
    refine LL.store rfl rfl rfl rfl r4 (by exact Nat.le_of_ble_eq_true rfl) rfl rfl rfl rfl ?_
    intro W17 r18 b16 z19
    have hlb16 := r4.lt
    replace r18 : RowL W17 _ 33 [Value.int IntKind.i64 2, Value.int IntKind.i64 ↑slots, Value.int IntKind.i64 ↑slot, Value.int IntKind.i64 1, Value.int IntKind.u64 ↑key, Value.int IntKind.u64 ↑ptr, Value.int IntKind.u64 ↑ahead, Value.bool false, Value.bool is, Value.int IntKind.i64 ↑(loads + 1)] := r18
    clear r4
    replace r10 := r10.gr b16 (by have := r10.lt; omega)
    replace b1 := b1.grown b16 b1.size (by rintro k ⟨⟩; omega)
    replace q := q.grown b16 q.size (by rintro k ⟨⟩; omega)
    have r4 := r18
    clear r18
    refine LL.nilS ?_
    refine CC.seq ?_
    refine CC.region ?_
    refine LL.val (R.load rfl rfl (I.ldNc (vs := [Value.int IntKind.i64 2, Value.int IntKind.i64 ↑slots, Value.int IntKind.i64 ↑slot, Value.int IntKind.i64 1, Value.int IntKind.u64 ↑key, Value.int IntKind.u64 ↑ptr, Value.int IntKind.u64 ↑ahead, Value.bool false, Value.bool is, Value.int IntKind.i64 ↑(loads + 1)]) (RowL.cells r4 rfl) (by rfl) (by rfl))) rfl rfl rfl ?_
    refine LL.storeN (vs := [Value.int IntKind.i64 2, Value.int IntKind.i64 ↑slots, Value.int IntKind.i64 ↑slot, Value.int IntKind.i64 1, Value.int IntKind.u64 ↑key, Value.int IntKind.u64 ↑ptr, Value.int IntKind.u64 ↑ahead, Value.bool false, Value.bool is, Value.int IntKind.i64 ↑(loads + 1)]) rfl rfl rfl rfl r10 (by exact Nat.le_of_ble_eq_true rfl) (ones_of rfl) rfl rfl ?_
    intro W21 r22 b20 z23
    have hlb20 := r10.lt
    replace r22 : RowL W21 _ 33 [Value.int IntKind.i64 2, Value.int IntKind.i64 ↑slots, Value.int IntKind.i64 ↑slot, Value.int IntKind.i64 1, Value.int IntKind.u64 ↑key, Value.int IntKind.u64 ↑ptr, Value.int IntKind.u64 ↑ahead, Value.bool false, Value.bool is, Value.int IntKind.i64 ↑(loads + 1)] := r22
    clear r10
    replace b1 := b1.grown b20 b1.size (by rintro k ⟨⟩; omega)
    replace q := q.grown b20 q.size (by rintro k ⟨⟩; omega)
    replace r4 := r4.gr b20 (by have := r4.lt; omega)
    have r10 := r22
    clear r22
    refine LL.nilS ?_
    refine CC.ret ?_
    refine EE.inR ?_
    refine EE.thenR ?_
    refine EE.retC rfl rfl (lvNc (RowL.cells0 (by assumption)) (by rfl) (by rfl)) ?_
    exact ⟨rfl, q⟩
  · rw [show giveD ⟨5, slots, (slot : Int), key, ptr, ahead, false, is, loads⟩ v = goesD ⟨5, slots, (slot : Int), key, ptr, ahead, false, is, loads + 1⟩ from if_neg hv]
    refine X.fn Try.func16 rfl (n := 81) rfl rfl ?_
    refine CC.seq ?_
    refine CC.region ?_
    refine LL.box [Value.int IntKind.i64 2, Value.int IntKind.i64 ↑slots, Value.int IntKind.i64 ↑slot, Value.int IntKind.i64 0, Value.int IntKind.u64 ↑key, Value.int IntKind.u64 ↑ptr, Value.int IntKind.u64 ↑ahead, Value.bool false, Value.bool is, Value.int IntKind.i64 ↑loads] rfl rfl rfl rfl rfl ?_
    intro Wa9 ga10 ega10 ra11 za12 ba8
    replace q := q.trans (ba8.mono q.size)
    have la21 := ra11.lt
    refine LL.alloc ([Value.int IntKind.i64 0, Value.int IntKind.i64 0, Value.int IntKind.i64 0, Value.int IntKind.i64 0, Value.int IntKind.u64 0, Value.int IntKind.u64 0, Value.int IntKind.u64 0, Value.bool false, Value.bool false, Value.int IntKind.i64 0]) rfl rfl rfl rfl rfl ?_
    intro Wa23 ga24 ega24 ra25 za26 ba22
    replace ra11 := ra11.up ba22
    replace ba8 := ba8.trans (ba22.mono ba8.size)
    replace q := q.trans (ba22.mono q.size)
    refine LL.nilS ?_
    refine CC.seq ?_
    refine CC.region ?_
    refine LL.val (R.field rfl rfl (I.fld rfl)) rfl rfl rfl ?_
    refine LL.val (R.load rfl rfl (I.ld1 rfl (RowL.cell ra11 rfl))) rfl rfl rfl ?_
    refine LL.val (R.addNc rfl rfl rfl rfl (by omega)) rfl rfl rfl ?_
    refine LL.val (R.field rfl rfl (I.fld rfl)) rfl rfl rfl ?_
    refine LL.store rfl rfl rfl rfl ra11 (by exact Nat.le_of_ble_eq_true rfl) rfl rfl rfl rfl ?_
    intro Wa73 ra74 ba72 za75
    have hlba72 := ra11.lt
    replace ra74 : RowL Wa73 _ 33 [Value.int IntKind.i64 2, Value.int IntKind.i64 ↑slots, Value.int IntKind.i64 ↑slot, Value.int IntKind.i64 0, Value.int IntKind.u64 ↑key, Value.int IntKind.u64 ↑ptr, Value.int IntKind.u64 ↑ahead, Value.bool false, Value.bool is, Value.int IntKind.i64 ↑(loads + 1)] := ra74
    clear ra11
    replace ra25 := ra25.gr ba72 (by have := ra25.lt; omega)
    replace ba8 := ba8.grown ba72 ba8.size (by rintro k ⟨⟩; omega)
    replace q := q.grown ba72 q.size (by rintro k ⟨⟩; omega)
    have ra11 := ra74
    clear ra74
    refine LL.nilS ?_
    refine CC.seq ?_
    refine CC.seq ?_
    refine CC.region ?_
    refine LL.val (R.field rfl rfl (I.fld rfl)) rfl rfl rfl ?_
    refine LL.val (R.load rfl rfl (I.ld1 rfl (RowL.cell ra11 rfl))) rfl rfl rfl ?_
    refine LL.val (R.eqF rfl rfl rfl (by omega)) rfl rfl rfl ?_
    refine LL.nilS ?_
    refine CC.no rfl ?_
    refine CC.skip ?_
    refine EE.thenN ?_
    refine CC.seq ?_
    refine CC.seq ?_
    refine CC.region ?_
    refine LL.val (R.field rfl rfl (I.fld rfl)) rfl rfl rfl ?_
    refine LL.val (R.load rfl rfl (I.ld1 rfl (RowL.cell ra11 rfl))) rfl rfl rfl ?_
    refine LL.nilS ?_
    refine CC.block ?_
    refine CC.seq ?_
    refine CC.region ?_
    refine LL.val (R.eqT rfl rfl rfl (by omega)) rfl rfl rfl ?_
    refine LL.val (R.assign rfl rfl) rfl rfl rfl ?_
    refine LL.nilS ?_
    refine CC.yes rfl ?_
    refine CC.seq ?_
    refine CC.seq ?_
    refine CC.region ?_
    refine LL.val (R.move rfl rfl) rfl rfl rfl ?_
    refine LL.val (R.field rfl rfl (I.fld rfl)) rfl rfl rfl ?_
    refine LL.val (R.load rfl rfl (I.ld1 rfl (RowL.cell ra11 rfl))) rfl rfl rfl ?_
    refine LL.val (R.neT rfl rfl rfl (by omega)) rfl rfl rfl ?_
    refine LL.nilS ?_
    refine CC.yes rfl ?_
    refine CC.seq ?_
    refine CC.region ?_
    refine LL.val (R.load rfl rfl (I.ldNc (vs := [Value.int IntKind.i64 2, Value.int IntKind.i64 ↑slots, Value.int IntKind.i64 ↑slot, Value.int IntKind.i64 0, Value.int IntKind.u64 ↑key, Value.int IntKind.u64 ↑ptr, Value.int IntKind.u64 ↑ahead, Value.bool false, Value.bool is, Value.int IntKind.i64 ↑(loads + 1)]) (RowL.cells ra11 rfl) (by rfl) (by rfl))) rfl rfl rfl ?_
    have la188 := ra25.lt
    have la189 := ra11.lt
    (refine LL.call (R.call rfl rfl rfl) rfl rfl rfl (goD_5 hs hS) ?_; rintro e Wa187 ⟨rfl, ba184⟩; refine ⟨_, rfl, ?_⟩)
    have zba184 := ba184.size
    replace ra25 := ra25.up ba184
    replace ba8 := ba8.trans (ba184.mono ba8.size)
    replace q := q.trans (ba184.mono q.size)
    replace ra11 := ra11.up ba184
    refine LL.storeN (vs := [Value.int IntKind.i64 (wayD (goesD { k := 5, slots := slots, slot := ↑slot, key := key, ptr := ptr, ahead := ahead, dn := false, is := is, loads := loads + 1 }).k), Value.int IntKind.i64 ↑(goesD { k := 5, slots := slots, slot := ↑slot, key := key, ptr := ptr, ahead := ahead, dn := false, is := is, loads := loads + 1 }).slots, Value.int IntKind.i64 (goesD { k := 5, slots := slots, slot := ↑slot, key := key, ptr := ptr, ahead := ahead, dn := false, is := is, loads := loads + 1 }).slot, Value.int IntKind.i64 (stepD (goesD { k := 5, slots := slots, slot := ↑slot, key := key, ptr := ptr, ahead := ahead, dn := false, is := is, loads := loads + 1 }).k), Value.int IntKind.u64 ↑(goesD { k := 5, slots := slots, slot := ↑slot, key := key, ptr := ptr, ahead := ahead, dn := false, is := is, loads := loads + 1 }).key, Value.int IntKind.u64 ↑(goesD { k := 5, slots := slots, slot := ↑slot, key := key, ptr := ptr, ahead := ahead, dn := false, is := is, loads := loads + 1 }).ptr, Value.int IntKind.u64 ↑(goesD { k := 5, slots := slots, slot := ↑slot, key := key, ptr := ptr, ahead := ahead, dn := false, is := is, loads := loads + 1 }).ahead, Value.bool (goesD { k := 5, slots := slots, slot := ↑slot, key := key, ptr := ptr, ahead := ahead, dn := false, is := is, loads := loads + 1 }).dn, Value.bool (goesD { k := 5, slots := slots, slot := ↑slot, key := key, ptr := ptr, ahead := ahead, dn := false, is := is, loads := loads + 1 }).is, Value.int IntKind.i64 ↑(goesD { k := 5, slots := slots, slot := ↑slot, key := key, ptr := ptr, ahead := ahead, dn := false, is := is, loads := loads + 1 }).loads]) rfl rfl rfl rfl ra25 (by exact Nat.le_of_ble_eq_true rfl) (ones_of rfl) rfl rfl ?_
    intro Wa203 ra204 ba202 za205
    have hlba202 := ra25.lt
    replace ra204 : RowL Wa203 _ 33 [Value.int IntKind.i64 (wayD (goesD { k := 5, slots := slots, slot := ↑slot, key := key, ptr := ptr, ahead := ahead, dn := false, is := is, loads := loads + 1 }).k), Value.int IntKind.i64 ↑(goesD { k := 5, slots := slots, slot := ↑slot, key := key, ptr := ptr, ahead := ahead, dn := false, is := is, loads := loads + 1 }).slots, Value.int IntKind.i64 (goesD { k := 5, slots := slots, slot := ↑slot, key := key, ptr := ptr, ahead := ahead, dn := false, is := is, loads := loads + 1 }).slot, Value.int IntKind.i64 (stepD (goesD { k := 5, slots := slots, slot := ↑slot, key := key, ptr := ptr, ahead := ahead, dn := false, is := is, loads := loads + 1 }).k), Value.int IntKind.u64 ↑(goesD { k := 5, slots := slots, slot := ↑slot, key := key, ptr := ptr, ahead := ahead, dn := false, is := is, loads := loads + 1 }).key, Value.int IntKind.u64 ↑(goesD { k := 5, slots := slots, slot := ↑slot, key := key, ptr := ptr, ahead := ahead, dn := false, is := is, loads := loads + 1 }).ptr, Value.int IntKind.u64 ↑(goesD { k := 5, slots := slots, slot := ↑slot, key := key, ptr := ptr, ahead := ahead, dn := false, is := is, loads := loads + 1 }).ahead, Value.bool (goesD { k := 5, slots := slots, slot := ↑slot, key := key, ptr := ptr, ahead := ahead, dn := false, is := is, loads := loads + 1 }).dn, Value.bool (goesD { k := 5, slots := slots, slot := ↑slot, key := key, ptr := ptr, ahead := ahead, dn := false, is := is, loads := loads + 1 }).is, Value.int IntKind.i64 ↑(goesD { k := 5, slots := slots, slot := ↑slot, key := key, ptr := ptr, ahead := ahead, dn := false, is := is, loads := loads + 1 }).loads] := ra204
    clear ra25
    replace ba8 := ba8.grown ba202 ba8.size (by rintro k ⟨⟩; omega)
    replace q := q.grown ba202 q.size (by rintro k ⟨⟩; omega)
    replace ra11 := ra11.gr ba202 (by have := ra11.lt; omega)
    have ra25 := ra204
    clear ra204
    refine LL.nilS ?_
    refine CC.ret ?_
    refine EE.thenR ?_
    refine EE.inR ?_
    refine EE.thenR ?_
    refine EE.retC rfl rfl (lvNc (RowL.cells0 (by assumption)) (by rfl) (by rfl)) ?_
    exact ⟨rfl, q⟩
theorem dgive_6 (v : Nat) {slots slot key ptr ahead loads : Nat} {is : Bool} {w : World} (hs : slot < slots) (hS : slots ≤ 28) (hl : loads ≤ 1000000) : Calls Try.prog 16 #[.agg #[.int .i64 2, .int .i64 (slots : Int), .int .i64 (slot : Int), .int .i64 1, .int .u64 (key : Int), .int .u64 (ptr : Int), .int .u64 (ahead : Int), .bool false, .bool is, .int .i64 (loads : Int)], .int .u64 (v : Int)] w fun e w' => e = .returned (drA (giveD ⟨6, slots, (slot : Int), key, ptr, ahead, false, is, loads⟩ v)) ∧ Below w.heap.size w w' := by
  have q := Below.refl w.heap.size w
  by_cases hv : v = 0
  · rw [show giveD ⟨6, slots, (slot : Int), key, ptr, ahead, false, is, loads⟩ v = goesD ⟨7, slots, (slot : Int), key, v, ahead, false, is, loads + 1⟩ from if_pos hv]
    refine X.fn Try.func16 rfl (n := 81) rfl rfl ?_
    refine CC.seq ?_
    refine CC.region ?_
    refine LL.box [Value.int IntKind.i64 2, Value.int IntKind.i64 ↑slots, Value.int IntKind.i64 ↑slot, Value.int IntKind.i64 1, Value.int IntKind.u64 ↑key, Value.int IntKind.u64 ↑ptr, Value.int IntKind.u64 ↑ahead, Value.bool false, Value.bool is, Value.int IntKind.i64 ↑loads] rfl rfl rfl rfl rfl ?_
    intro W9 g10 eg10 r11 z12 b8
    replace q := q.trans (b8.mono q.size)
    have l21 := r11.lt
    refine LL.alloc ([Value.int IntKind.i64 0, Value.int IntKind.i64 0, Value.int IntKind.i64 0, Value.int IntKind.i64 0, Value.int IntKind.u64 0, Value.int IntKind.u64 0, Value.int IntKind.u64 0, Value.bool false, Value.bool false, Value.int IntKind.i64 0]) rfl rfl rfl rfl rfl ?_
    intro W23 g24 eg24 r25 z26 b22
    replace r11 := r11.up b22
    replace b8 := b8.trans (b22.mono b8.size)
    replace q := q.trans (b22.mono q.size)
    refine LL.nilS ?_
    refine CC.seq ?_
    refine CC.region ?_
    refine LL.val (R.field rfl rfl (I.fld rfl)) rfl rfl rfl ?_
    refine LL.val (R.load rfl rfl (I.ld1 rfl (RowL.cell r11 rfl))) rfl rfl rfl ?_
    refine LL.val (R.addNc rfl rfl rfl rfl (by omega)) rfl rfl rfl ?_
    refine LL.val (R.field rfl rfl (I.fld rfl)) rfl rfl rfl ?_
    refine LL.store rfl rfl rfl rfl r11 (by exact Nat.le_of_ble_eq_true rfl) rfl rfl rfl rfl ?_
    intro W73 r74 b72 z75
    have hlb72 := r11.lt
    replace r74 : RowL W73 _ 33 [Value.int IntKind.i64 2, Value.int IntKind.i64 ↑slots, Value.int IntKind.i64 ↑slot, Value.int IntKind.i64 1, Value.int IntKind.u64 ↑key, Value.int IntKind.u64 ↑ptr, Value.int IntKind.u64 ↑ahead, Value.bool false, Value.bool is, Value.int IntKind.i64 ↑(loads + 1)] := r74
    clear r11
    replace r25 := r25.gr b72 (by have := r25.lt; omega)
    replace b8 := b8.grown b72 b8.size (by rintro k ⟨⟩; omega)
    replace q := q.grown b72 q.size (by rintro k ⟨⟩; omega)
    have r11 := r74
    clear r74
    refine LL.nilS ?_
    refine CC.seq ?_
    refine CC.seq ?_
    refine CC.region ?_
    refine LL.val (R.field rfl rfl (I.fld rfl)) rfl rfl rfl ?_
    refine LL.val (R.load rfl rfl (I.ld1 rfl (RowL.cell r11 rfl))) rfl rfl rfl ?_
    refine LL.val (R.eqF rfl rfl rfl (by omega)) rfl rfl rfl ?_
    refine LL.nilS ?_
    refine CC.no rfl ?_
    refine CC.skip ?_
    refine EE.thenN ?_
    refine CC.seq ?_
    refine CC.seq ?_
    refine CC.region ?_
    refine LL.val (R.field rfl rfl (I.fld rfl)) rfl rfl rfl ?_
    refine LL.val (R.load rfl rfl (I.ld1 rfl (RowL.cell r11 rfl))) rfl rfl rfl ?_
    refine LL.nilS ?_
    refine CC.block ?_
    refine CC.seq ?_
    refine CC.region ?_
    refine LL.val (R.eqF rfl rfl rfl (by omega)) rfl rfl rfl ?_
    refine LL.val (R.assign rfl rfl) rfl rfl rfl ?_
    refine LL.nilS ?_
    refine CC.no rfl ?_
    refine CC.seq ?_
    refine CC.region ?_
    refine LL.val (R.eqT rfl rfl rfl (by omega)) rfl rfl rfl ?_
    refine LL.val (R.assign rfl rfl) rfl rfl rfl ?_
    refine LL.nilS ?_
    refine CC.yes rfl ?_
    refine CC.seq ?_
    refine CC.region ?_
    refine LL.val (R.move rfl rfl) rfl rfl rfl ?_
    refine LL.val (R.field rfl rfl (I.fld rfl)) rfl rfl rfl ?_
    refine LL.store rfl rfl rfl rfl r11 (by exact Nat.le_of_ble_eq_true rfl) rfl rfl rfl rfl ?_
    intro W185 r186 b184 z187
    have hlb184 := r11.lt
    replace r186 : RowL W185 _ 33 [Value.int IntKind.i64 2, Value.int IntKind.i64 ↑slots, Value.int IntKind.i64 ↑slot, Value.int IntKind.i64 1, Value.int IntKind.u64 ↑key, Value.int IntKind.u64 ↑v, Value.int IntKind.u64 ↑ahead, Value.bool false, Value.bool is, Value.int IntKind.i64 ↑(loads + 1)] := r186
    clear r11
    replace r25 := r25.gr b184 (by have := r25.lt; omega)
    replace b8 := b8.grown b184 b8.size (by rintro k ⟨⟩; omega)
    replace q := q.grown b184 q.size (by rintro k ⟨⟩; omega)
    have r11 := r186
    clear r186
    refine LL.val (R.field rfl rfl (I.fld rfl)) rfl rfl rfl ?_
    refine LL.store rfl rfl rfl rfl r11 (by exact Nat.le_of_ble_eq_true rfl) rfl rfl rfl rfl ?_
    intro W207 r208 b206 z209
    have hlb206 := r11.lt
    replace r208 : RowL W207 _ 33 [Value.int IntKind.i64 2, Value.int IntKind.i64 ↑slots, Value.int IntKind.i64 ↑slot, Value.int IntKind.i64 2, Value.int IntKind.u64 ↑key, Value.int IntKind.u64 ↑v, Value.int IntKind.u64 ↑ahead, Value.bool false, Value.bool is, Value.int IntKind.i64 ↑(loads + 1)] := r208
    clear r11
    replace r25 := r25.gr b206 (by have := r25.lt; omega)
    replace b8 := b8.grown b206 b8.size (by rintro k ⟨⟩; omega)
    replace q := q.grown b206 q.size (by rintro k ⟨⟩; omega)
    have r11 := r208
    clear r208
    refine LL.nilS ?_
    refine CC.seq ?_
    refine CC.seq ?_
    refine CC.region ?_
    refine LL.val (R.move rfl rfl) rfl rfl rfl ?_
    refine LL.val (R.eqT rfl rfl rfl (by omega)) rfl rfl rfl ?_
    refine LL.nilS ?_
    refine CC.yes rfl ?_
    refine CC.seq ?_
    refine CC.region ?_
    refine LL.val (R.load rfl rfl (I.ldNc (vs := [Value.int IntKind.i64 2, Value.int IntKind.i64 ↑slots, Value.int IntKind.i64 ↑slot, Value.int IntKind.i64 2, Value.int IntKind.u64 ↑key, Value.int IntKind.u64 ↑v, Value.int IntKind.u64 ↑ahead, Value.bool false, Value.bool is, Value.int IntKind.i64 ↑(loads + 1)]) (RowL.cells r11 rfl) (by rfl) (by rfl))) rfl rfl rfl ?_
    have l241 := r25.lt
    have l242 := r11.lt
    (refine LL.call (R.call rfl rfl rfl) rfl rfl rfl (goD_7 hs hS) ?_; rintro e W240 ⟨rfl, b237⟩; refine ⟨_, rfl, ?_⟩)
    have zb237 := b237.size
    replace r25 := r25.up b237
    replace b8 := b8.trans (b237.mono b8.size)
    replace q := q.trans (b237.mono q.size)
    replace r11 := r11.up b237
    refine LL.storeN (vs := [Value.int IntKind.i64 (wayD (goesD { k := 7, slots := slots, slot := ↑slot, key := key, ptr := v, ahead := ahead, dn := false, is := is, loads := loads + 1 }).k), Value.int IntKind.i64 ↑(goesD { k := 7, slots := slots, slot := ↑slot, key := key, ptr := v, ahead := ahead, dn := false, is := is, loads := loads + 1 }).slots, Value.int IntKind.i64 (goesD { k := 7, slots := slots, slot := ↑slot, key := key, ptr := v, ahead := ahead, dn := false, is := is, loads := loads + 1 }).slot, Value.int IntKind.i64 (stepD (goesD { k := 7, slots := slots, slot := ↑slot, key := key, ptr := v, ahead := ahead, dn := false, is := is, loads := loads + 1 }).k), Value.int IntKind.u64 ↑(goesD { k := 7, slots := slots, slot := ↑slot, key := key, ptr := v, ahead := ahead, dn := false, is := is, loads := loads + 1 }).key, Value.int IntKind.u64 ↑(goesD { k := 7, slots := slots, slot := ↑slot, key := key, ptr := v, ahead := ahead, dn := false, is := is, loads := loads + 1 }).ptr, Value.int IntKind.u64 ↑(goesD { k := 7, slots := slots, slot := ↑slot, key := key, ptr := v, ahead := ahead, dn := false, is := is, loads := loads + 1 }).ahead, Value.bool (goesD { k := 7, slots := slots, slot := ↑slot, key := key, ptr := v, ahead := ahead, dn := false, is := is, loads := loads + 1 }).dn, Value.bool (goesD { k := 7, slots := slots, slot := ↑slot, key := key, ptr := v, ahead := ahead, dn := false, is := is, loads := loads + 1 }).is, Value.int IntKind.i64 ↑(goesD { k := 7, slots := slots, slot := ↑slot, key := key, ptr := v, ahead := ahead, dn := false, is := is, loads := loads + 1 }).loads]) rfl rfl rfl rfl r25 (by exact Nat.le_of_ble_eq_true rfl) (ones_of rfl) rfl rfl ?_
    intro W256 r257 b255 z258
    have hlb255 := r25.lt
    replace r257 : RowL W256 _ 33 [Value.int IntKind.i64 (wayD (goesD { k := 7, slots := slots, slot := ↑slot, key := key, ptr := v, ahead := ahead, dn := false, is := is, loads := loads + 1 }).k), Value.int IntKind.i64 ↑(goesD { k := 7, slots := slots, slot := ↑slot, key := key, ptr := v, ahead := ahead, dn := false, is := is, loads := loads + 1 }).slots, Value.int IntKind.i64 (goesD { k := 7, slots := slots, slot := ↑slot, key := key, ptr := v, ahead := ahead, dn := false, is := is, loads := loads + 1 }).slot, Value.int IntKind.i64 (stepD (goesD { k := 7, slots := slots, slot := ↑slot, key := key, ptr := v, ahead := ahead, dn := false, is := is, loads := loads + 1 }).k), Value.int IntKind.u64 ↑(goesD { k := 7, slots := slots, slot := ↑slot, key := key, ptr := v, ahead := ahead, dn := false, is := is, loads := loads + 1 }).key, Value.int IntKind.u64 ↑(goesD { k := 7, slots := slots, slot := ↑slot, key := key, ptr := v, ahead := ahead, dn := false, is := is, loads := loads + 1 }).ptr, Value.int IntKind.u64 ↑(goesD { k := 7, slots := slots, slot := ↑slot, key := key, ptr := v, ahead := ahead, dn := false, is := is, loads := loads + 1 }).ahead, Value.bool (goesD { k := 7, slots := slots, slot := ↑slot, key := key, ptr := v, ahead := ahead, dn := false, is := is, loads := loads + 1 }).dn, Value.bool (goesD { k := 7, slots := slots, slot := ↑slot, key := key, ptr := v, ahead := ahead, dn := false, is := is, loads := loads + 1 }).is, Value.int IntKind.i64 ↑(goesD { k := 7, slots := slots, slot := ↑slot, key := key, ptr := v, ahead := ahead, dn := false, is := is, loads := loads + 1 }).loads] := r257
    clear r25
    replace b8 := b8.grown b255 b8.size (by rintro k ⟨⟩; omega)
    replace q := q.grown b255 q.size (by rintro k ⟨⟩; omega)
    replace r11 := r11.gr b255 (by have := r11.lt; omega)
    have r25 := r257
    clear r257
    refine LL.nilS ?_
    refine CC.ret ?_
    refine EE.thenR ?_
    refine EE.inR ?_
    refine EE.thenR ?_
    refine EE.retC rfl rfl (lvNc (RowL.cells0 (by assumption)) (by rfl) (by rfl)) ?_
    exact ⟨rfl, q⟩
  · rw [show giveD ⟨6, slots, (slot : Int), key, ptr, ahead, false, is, loads⟩ v = ⟨7, slots, (slot : Int), key, v, ahead, false, is, loads + 1⟩ from if_neg hv]
    refine X.fn Try.func16 rfl (n := 81) rfl rfl ?_
    refine CC.seq ?_
    refine CC.region ?_
    refine LL.box [Value.int IntKind.i64 2, Value.int IntKind.i64 ↑slots, Value.int IntKind.i64 ↑slot, Value.int IntKind.i64 1, Value.int IntKind.u64 ↑key, Value.int IntKind.u64 ↑ptr, Value.int IntKind.u64 ↑ahead, Value.bool false, Value.bool is, Value.int IntKind.i64 ↑loads] rfl rfl rfl rfl rfl ?_
    intro Wa2 ga3 ega3 ra4 za5 ba1
    replace q := q.trans (ba1.mono q.size)
    have la6 := ra4.lt
    refine LL.alloc ([Value.int IntKind.i64 0, Value.int IntKind.i64 0, Value.int IntKind.i64 0, Value.int IntKind.i64 0, Value.int IntKind.u64 0, Value.int IntKind.u64 0, Value.int IntKind.u64 0, Value.bool false, Value.bool false, Value.int IntKind.i64 0]) rfl rfl rfl rfl rfl ?_
    intro Wa8 ga9 ega9 ra10 za11 ba7
    replace ra4 := ra4.up ba7
    replace ba1 := ba1.trans (ba7.mono ba1.size)
    replace q := q.trans (ba7.mono q.size)
    refine LL.nilS ?_
    refine CC.seq ?_
    refine CC.region ?_
    refine LL.val (R.field rfl rfl (I.fld rfl)) rfl rfl rfl ?_
    refine LL.val (R.load rfl rfl (I.ld1 rfl (RowL.cell ra4 rfl))) rfl rfl rfl ?_
    refine LL.val (R.addNc rfl rfl rfl rfl (by omega)) rfl rfl rfl ?_
    refine LL.val (R.field rfl rfl (I.fld rfl)) rfl rfl rfl ?_
    refine LL.store rfl rfl rfl rfl ra4 (by exact Nat.le_of_ble_eq_true rfl) rfl rfl rfl rfl ?_
    intro Wa13 ra14 ba12 za15
    have hlba12 := ra4.lt
    replace ra14 : RowL Wa13 _ 33 [Value.int IntKind.i64 2, Value.int IntKind.i64 ↑slots, Value.int IntKind.i64 ↑slot, Value.int IntKind.i64 1, Value.int IntKind.u64 ↑key, Value.int IntKind.u64 ↑ptr, Value.int IntKind.u64 ↑ahead, Value.bool false, Value.bool is, Value.int IntKind.i64 ↑(loads + 1)] := ra14
    clear ra4
    replace ra10 := ra10.gr ba12 (by have := ra10.lt; omega)
    replace ba1 := ba1.grown ba12 ba1.size (by rintro k ⟨⟩; omega)
    replace q := q.grown ba12 q.size (by rintro k ⟨⟩; omega)
    have ra4 := ra14
    clear ra14
    refine LL.nilS ?_
    refine CC.seq ?_
    refine CC.seq ?_
    refine CC.region ?_
    refine LL.val (R.field rfl rfl (I.fld rfl)) rfl rfl rfl ?_
    refine LL.val (R.load rfl rfl (I.ld1 rfl (RowL.cell ra4 rfl))) rfl rfl rfl ?_
    refine LL.val (R.eqF rfl rfl rfl (by omega)) rfl rfl rfl ?_
    refine LL.nilS ?_
    refine CC.no rfl ?_
    refine CC.skip ?_
    refine EE.thenN ?_
    refine CC.seq ?_
    refine CC.seq ?_
    refine CC.region ?_
    refine LL.val (R.field rfl rfl (I.fld rfl)) rfl rfl rfl ?_
    refine LL.val (R.load rfl rfl (I.ld1 rfl (RowL.cell ra4 rfl))) rfl rfl rfl ?_
    refine LL.nilS ?_
    refine CC.block ?_
    refine CC.seq ?_
    refine CC.region ?_
    refine LL.val (R.eqF rfl rfl rfl (by omega)) rfl rfl rfl ?_
    refine LL.val (R.assign rfl rfl) rfl rfl rfl ?_
    refine LL.nilS ?_
    refine CC.no rfl ?_
    refine CC.seq ?_
    refine CC.region ?_
    refine LL.val (R.eqT rfl rfl rfl (by omega)) rfl rfl rfl ?_
    refine LL.val (R.assign rfl rfl) rfl rfl rfl ?_
    refine LL.nilS ?_
    refine CC.yes rfl ?_
    refine CC.seq ?_
    refine CC.region ?_
    refine LL.val (R.move rfl rfl) rfl rfl rfl ?_
    refine LL.val (R.field rfl rfl (I.fld rfl)) rfl rfl rfl ?_
    refine LL.store rfl rfl rfl rfl ra4 (by exact Nat.le_of_ble_eq_true rfl) rfl rfl rfl rfl ?_
    intro Wa17 ra18 ba16 za19
    have hlba16 := ra4.lt
    replace ra18 : RowL Wa17 _ 33 [Value.int IntKind.i64 2, Value.int IntKind.i64 ↑slots, Value.int IntKind.i64 ↑slot, Value.int IntKind.i64 1, Value.int IntKind.u64 ↑key, Value.int IntKind.u64 ↑v, Value.int IntKind.u64 ↑ahead, Value.bool false, Value.bool is, Value.int IntKind.i64 ↑(loads + 1)] := ra18
    clear ra4
    replace ra10 := ra10.gr ba16 (by have := ra10.lt; omega)
    replace ba1 := ba1.grown ba16 ba1.size (by rintro k ⟨⟩; omega)
    replace q := q.grown ba16 q.size (by rintro k ⟨⟩; omega)
    have ra4 := ra18
    clear ra18
    refine LL.val (R.field rfl rfl (I.fld rfl)) rfl rfl rfl ?_
    refine LL.store rfl rfl rfl rfl ra4 (by exact Nat.le_of_ble_eq_true rfl) rfl rfl rfl rfl ?_
    intro Wa21 ra22 ba20 za23
    have hlba20 := ra4.lt
    replace ra22 : RowL Wa21 _ 33 [Value.int IntKind.i64 2, Value.int IntKind.i64 ↑slots, Value.int IntKind.i64 ↑slot, Value.int IntKind.i64 2, Value.int IntKind.u64 ↑key, Value.int IntKind.u64 ↑v, Value.int IntKind.u64 ↑ahead, Value.bool false, Value.bool is, Value.int IntKind.i64 ↑(loads + 1)] := ra22
    clear ra4
    replace ra10 := ra10.gr ba20 (by have := ra10.lt; omega)
    replace ba1 := ba1.grown ba20 ba1.size (by rintro k ⟨⟩; omega)
    replace q := q.grown ba20 q.size (by rintro k ⟨⟩; omega)
    have ra4 := ra22
    clear ra22
    refine LL.nilS ?_
    refine CC.seq ?_
    refine CC.seq ?_
    refine CC.region ?_
    refine LL.val (R.move rfl rfl) rfl rfl rfl ?_
    refine LL.val (R.eqF rfl rfl rfl (by omega)) rfl rfl rfl ?_
    refine LL.nilS ?_
    refine CC.no rfl ?_
    refine CC.skip ?_
    refine EE.thenN ?_
    refine CC.seq ?_
    refine CC.region ?_
    refine LL.val (R.load rfl rfl (I.ldNc (vs := [Value.int IntKind.i64 2, Value.int IntKind.i64 ↑slots, Value.int IntKind.i64 ↑slot, Value.int IntKind.i64 2, Value.int IntKind.u64 ↑key, Value.int IntKind.u64 ↑v, Value.int IntKind.u64 ↑ahead, Value.bool false, Value.bool is, Value.int IntKind.i64 ↑(loads + 1)]) (RowL.cells ra4 rfl) (by rfl) (by rfl))) rfl rfl rfl ?_
    refine LL.storeN (vs := [Value.int IntKind.i64 2, Value.int IntKind.i64 ↑slots, Value.int IntKind.i64 ↑slot, Value.int IntKind.i64 2, Value.int IntKind.u64 ↑key, Value.int IntKind.u64 ↑v, Value.int IntKind.u64 ↑ahead, Value.bool false, Value.bool is, Value.int IntKind.i64 ↑(loads + 1)]) rfl rfl rfl rfl ra10 (by exact Nat.le_of_ble_eq_true rfl) (ones_of rfl) rfl rfl ?_
    intro Wa25 ra26 ba24 za27
    have hlba24 := ra10.lt
    replace ra26 : RowL Wa25 _ 33 [Value.int IntKind.i64 2, Value.int IntKind.i64 ↑slots, Value.int IntKind.i64 ↑slot, Value.int IntKind.i64 2, Value.int IntKind.u64 ↑key, Value.int IntKind.u64 ↑v, Value.int IntKind.u64 ↑ahead, Value.bool false, Value.bool is, Value.int IntKind.i64 ↑(loads + 1)] := ra26
    clear ra10
    replace ba1 := ba1.grown ba24 ba1.size (by rintro k ⟨⟩; omega)
    replace q := q.grown ba24 q.size (by rintro k ⟨⟩; omega)
    replace ra4 := ra4.gr ba24 (by have := ra4.lt; omega)
    have ra10 := ra26
    clear ra26
    refine LL.nilS ?_
    refine CC.ret ?_
    refine EE.inR ?_
    refine EE.thenR ?_
    refine EE.retC rfl rfl (lvNc (RowL.cells0 (by assumption)) (by rfl) (by rfl)) ?_
    exact ⟨rfl, q⟩
theorem dgive_any (v : Nat) (d : Dr) {w : World} (hk : d.k ≤ 8) (hd : d.dn = false) (h0 : 0 ≤ d.slot) (hs : d.slot < d.slots) (hS : d.slots ≤ 28) (hl : d.loads ≤ 1000000) : Calls Try.prog 16 #[drA d, .int .u64 (v : Int)] w fun e w' => e = .returned (drA (giveD d v)) ∧ Below w.heap.size w w' := by
  obtain ⟨k, slots, slot, key, ptr, ahead, dn, is, loads⟩ := d
  simp only at hk hd h0 hs hS hl
  subst hd
  obtain ⟨slot, rfl⟩ : ∃ n : Nat, slot = n := ⟨slot.toNat, by omega⟩
  replace hs : slot < slots := by omega
  rcases (by omega : k = 0 ∨ k = 1 ∨ k = 2 ∨ k = 3 ∨ k = 4 ∨ k = 5 ∨ k = 6 ∨ k = 7 ∨ k = 8) with rfl | rfl | rfl | rfl | rfl | rfl | rfl | rfl | rfl
  · exact dgive_0 v hs hS hl
  · exact dgive_1 v hs hS hl
  · exact dgive_2 v hs hS hl
  · exact dgive_3 v hs hS hl
  · exact dgive_4 v hs hS hl
  · exact dgive_5 v hs hS hl
  · exact dgive_6 v hs hS hl
  · exact dgive_7 v hs hS hl
  · exact dgive_8 v hs hS hl
theorem dwants_0 {slots slot key ptr ahead loads : Nat} {is : Bool} {w : World} (hs : slot < slots) (hS : slots ≤ 28) : Calls Try.prog 21 #[.agg #[.int .i64 1, .int .i64 (slots : Int), .int .i64 (slot : Int), .int .i64 0, .int .u64 (key : Int), .int .u64 (ptr : Int), .int .u64 (ahead : Int), .bool false, .bool is, .int .i64 (loads : Int)]] w fun e w' => e = .returned (.int .i64 ((2 * slot : Nat) : Int)) ∧ Below w.heap.size w w' := by
  have q := Below.refl w.heap.size w
  refine X.fn Try.func21 rfl (n := 42) rfl rfl ?_
  refine CC.seq ?_
  refine CC.region ?_
  refine LL.box [Value.int IntKind.i64 1, Value.int IntKind.i64 ↑slots, Value.int IntKind.i64 ↑slot, Value.int IntKind.i64 0, Value.int IntKind.u64 ↑key, Value.int IntKind.u64 ↑ptr, Value.int IntKind.u64 ↑ahead, Value.bool false, Value.bool is, Value.int IntKind.i64 ↑loads] rfl rfl rfl rfl rfl ?_
  intro W2 g3 eg3 r4 z5 b1
  replace q := q.trans (b1.mono q.size)
  refine LL.val (R.assign rfl rfl) rfl rfl rfl ?_
  refine LL.nilS ?_
  refine CC.seq ?_
  refine CC.region ?_
  refine LL.val (R.field rfl rfl (I.fld rfl)) rfl rfl rfl ?_
  refine LL.val (R.load rfl rfl (I.ld1 rfl (RowL.cell r4 rfl))) rfl rfl rfl ?_
  refine LL.val (R.assign rfl rfl) rfl rfl rfl ?_
  refine LL.nilS ?_
  refine CC.seq ?_
  refine CC.block ?_
  refine CC.seq ?_
  refine CC.region ?_
  refine LL.val (R.field rfl rfl (I.fld rfl)) rfl rfl rfl ?_
  refine LL.val (R.load rfl rfl (I.ld1 rfl (RowL.cell r4 rfl))) rfl rfl rfl ?_
  refine LL.val (R.eqT rfl rfl rfl (by omega)) rfl rfl rfl ?_
  refine LL.val (R.move rfl rfl) rfl rfl rfl ?_
  refine LL.skip rfl rfl ?_
  refine LL.skip rfl rfl ?_
  refine LL.skip rfl rfl ?_
  refine LL.val (R.pick rfl rfl rfl) rfl rfl rfl ?_
  refine LL.val (R.assign rfl rfl) rfl rfl rfl ?_
  refine LL.nilS ?_
  refine CC.yes rfl ?_
  refine CC.seq ?_
  refine CC.region ?_
  refine LL.val (R.move rfl rfl) rfl rfl rfl ?_
  refine LL.val (R.mulcN rfl rfl rfl rfl (by omega)) rfl rfl rfl ?_
  refine LL.val (R.assign rfl rfl) rfl rfl rfl ?_
  refine LL.nilS ?_
  refine CC.ret ?_
  refine EE.inR ?_
  refine EE.thenR ?_
  refine EE.ret _ rfl rfl ?_
  exact ⟨rfl, q⟩
theorem dwants_1 {slots slot key ptr ahead loads : Nat} {is : Bool} {w : World} (hs : slot < slots) (hS : slots ≤ 28) : Calls Try.prog 21 #[.agg #[.int .i64 1, .int .i64 (slots : Int), .int .i64 (slot : Int), .int .i64 1, .int .u64 (key : Int), .int .u64 (ptr : Int), .int .u64 (ahead : Int), .bool false, .bool is, .int .i64 (loads : Int)]] w fun e w' => e = .returned (.int .i64 (2 * (slot : Int) - 1)) ∧ Below w.heap.size w w' := by
  have q := Below.refl w.heap.size w
  refine X.fn Try.func21 rfl (n := 42) rfl rfl ?_
  refine CC.seq ?_
  refine CC.region ?_
  refine LL.box [Value.int IntKind.i64 1, Value.int IntKind.i64 ↑slots, Value.int IntKind.i64 ↑slot, Value.int IntKind.i64 1, Value.int IntKind.u64 ↑key, Value.int IntKind.u64 ↑ptr, Value.int IntKind.u64 ↑ahead, Value.bool false, Value.bool is, Value.int IntKind.i64 ↑loads] rfl rfl rfl rfl rfl ?_
  intro W2 g3 eg3 r4 z5 b1
  replace q := q.trans (b1.mono q.size)
  refine LL.val (R.assign rfl rfl) rfl rfl rfl ?_
  refine LL.nilS ?_
  refine CC.seq ?_
  refine CC.region ?_
  refine LL.val (R.field rfl rfl (I.fld rfl)) rfl rfl rfl ?_
  refine LL.val (R.load rfl rfl (I.ld1 rfl (RowL.cell r4 rfl))) rfl rfl rfl ?_
  refine LL.val (R.assign rfl rfl) rfl rfl rfl ?_
  refine LL.nilS ?_
  refine CC.seq ?_
  refine CC.block ?_
  refine CC.seq ?_
  refine CC.region ?_
  refine LL.val (R.field rfl rfl (I.fld rfl)) rfl rfl rfl ?_
  refine LL.val (R.load rfl rfl (I.ld1 rfl (RowL.cell r4 rfl))) rfl rfl rfl ?_
  refine LL.val (R.eqF rfl rfl rfl (by omega)) rfl rfl rfl ?_
  refine LL.val (R.move rfl rfl) rfl rfl rfl ?_
  refine LL.val (R.field rfl rfl (I.fld rfl)) rfl rfl rfl ?_
  refine LL.val (R.load rfl rfl (I.ld1 rfl (RowL.cell r4 rfl))) rfl rfl rfl ?_
  refine LL.val (R.eqF rfl rfl rfl (by omega)) rfl rfl rfl ?_
  refine LL.val (R.pick rfl rfl rfl) rfl rfl rfl ?_
  refine LL.val (R.assign rfl rfl) rfl rfl rfl ?_
  refine LL.nilS ?_
  refine CC.no rfl ?_
  refine CC.seq ?_
  refine CC.region ?_
  refine LL.val (R.field rfl rfl (I.fld rfl)) rfl rfl rfl ?_
  refine LL.val (R.load rfl rfl (I.ld1 rfl (RowL.cell r4 rfl))) rfl rfl rfl ?_
  refine LL.val (R.eqT rfl rfl rfl (by omega)) rfl rfl rfl ?_
  refine LL.val (R.move rfl rfl) rfl rfl rfl ?_
  refine LL.val (R.field rfl rfl (I.fld rfl)) rfl rfl rfl ?_
  refine LL.val (R.load rfl rfl (I.ld1 rfl (RowL.cell r4 rfl))) rfl rfl rfl ?_
  refine LL.val (R.eqT rfl rfl rfl (by omega)) rfl rfl rfl ?_
  refine LL.val (R.pick rfl rfl rfl) rfl rfl rfl ?_
  refine LL.val (R.move rfl rfl) rfl rfl rfl ?_
  refine LL.skip rfl rfl ?_
  refine LL.skip rfl rfl ?_
  refine LL.skip rfl rfl ?_
  refine LL.skip rfl rfl ?_
  refine LL.skip rfl rfl ?_
  refine LL.skip rfl rfl ?_
  refine LL.skip rfl rfl ?_
  refine LL.skip rfl rfl ?_
  refine LL.val (R.pick rfl rfl rfl) rfl rfl rfl ?_
  refine LL.val (R.assign rfl rfl) rfl rfl rfl ?_
  refine LL.nilS ?_
  refine CC.yes rfl ?_
  refine CC.seq ?_
  refine CC.region ?_
  refine LL.val (R.move rfl rfl) rfl rfl rfl ?_
  refine LL.val (R.mulcN rfl rfl rfl rfl (by omega)) rfl rfl rfl ?_
  refine LL.val (R.subI rfl rfl rfl (by omega)) rfl rfl rfl ?_
  refine LL.val (R.assign rfl rfl) rfl rfl rfl ?_
  refine LL.nilS ?_
  refine CC.ret ?_
  refine EE.inR ?_
  refine EE.thenR ?_
  refine EE.ret _ rfl rfl ?_
  exact ⟨rfl, q⟩
theorem dwants_2 {slots slot key ptr ahead loads : Nat} {is : Bool} {w : World} (hs : slot < slots) (hS : slots ≤ 28) : Calls Try.prog 21 #[.agg #[.int .i64 1, .int .i64 (slots : Int), .int .i64 (slot : Int), .int .i64 2, .int .u64 (key : Int), .int .u64 (ptr : Int), .int .u64 (ahead : Int), .bool false, .bool is, .int .i64 (loads : Int)]] w fun e w' => e = .returned (.int .i64 ((2 * slot + 1 : Nat) : Int)) ∧ Below w.heap.size w w' := by
  have q := Below.refl w.heap.size w
  refine X.fn Try.func21 rfl (n := 42) rfl rfl ?_
  refine CC.seq ?_
  refine CC.region ?_
  refine LL.box [Value.int IntKind.i64 1, Value.int IntKind.i64 ↑slots, Value.int IntKind.i64 ↑slot, Value.int IntKind.i64 2, Value.int IntKind.u64 ↑key, Value.int IntKind.u64 ↑ptr, Value.int IntKind.u64 ↑ahead, Value.bool false, Value.bool is, Value.int IntKind.i64 ↑loads] rfl rfl rfl rfl rfl ?_
  intro W2 g3 eg3 r4 z5 b1
  replace q := q.trans (b1.mono q.size)
  refine LL.val (R.assign rfl rfl) rfl rfl rfl ?_
  refine LL.nilS ?_
  refine CC.seq ?_
  refine CC.region ?_
  refine LL.val (R.field rfl rfl (I.fld rfl)) rfl rfl rfl ?_
  refine LL.val (R.load rfl rfl (I.ld1 rfl (RowL.cell r4 rfl))) rfl rfl rfl ?_
  refine LL.val (R.assign rfl rfl) rfl rfl rfl ?_
  refine LL.nilS ?_
  refine CC.seq ?_
  refine CC.block ?_
  refine CC.seq ?_
  refine CC.region ?_
  refine LL.val (R.field rfl rfl (I.fld rfl)) rfl rfl rfl ?_
  refine LL.val (R.load rfl rfl (I.ld1 rfl (RowL.cell r4 rfl))) rfl rfl rfl ?_
  refine LL.val (R.eqF rfl rfl rfl (by omega)) rfl rfl rfl ?_
  refine LL.val (R.move rfl rfl) rfl rfl rfl ?_
  refine LL.val (R.field rfl rfl (I.fld rfl)) rfl rfl rfl ?_
  refine LL.val (R.load rfl rfl (I.ld1 rfl (RowL.cell r4 rfl))) rfl rfl rfl ?_
  refine LL.val (R.eqF rfl rfl rfl (by omega)) rfl rfl rfl ?_
  refine LL.val (R.pick rfl rfl rfl) rfl rfl rfl ?_
  refine LL.val (R.assign rfl rfl) rfl rfl rfl ?_
  refine LL.nilS ?_
  refine CC.no rfl ?_
  refine CC.seq ?_
  refine CC.region ?_
  refine LL.val (R.field rfl rfl (I.fld rfl)) rfl rfl rfl ?_
  refine LL.val (R.load rfl rfl (I.ld1 rfl (RowL.cell r4 rfl))) rfl rfl rfl ?_
  refine LL.val (R.eqT rfl rfl rfl (by omega)) rfl rfl rfl ?_
  refine LL.val (R.move rfl rfl) rfl rfl rfl ?_
  refine LL.val (R.field rfl rfl (I.fld rfl)) rfl rfl rfl ?_
  refine LL.val (R.load rfl rfl (I.ld1 rfl (RowL.cell r4 rfl))) rfl rfl rfl ?_
  refine LL.val (R.eqF rfl rfl rfl (by omega)) rfl rfl rfl ?_
  refine LL.val (R.pick rfl rfl rfl) rfl rfl rfl ?_
  refine LL.val (R.move rfl rfl) rfl rfl rfl ?_
  refine LL.val (R.field rfl rfl (I.fld rfl)) rfl rfl rfl ?_
  refine LL.val (R.load rfl rfl (I.ld1 rfl (RowL.cell r4 rfl))) rfl rfl rfl ?_
  refine LL.val (R.eqF rfl rfl rfl (by omega)) rfl rfl rfl ?_
  refine LL.val (R.move rfl rfl) rfl rfl rfl ?_
  refine LL.skip rfl rfl ?_
  refine LL.skip rfl rfl ?_
  refine LL.skip rfl rfl ?_
  refine LL.val (R.pick rfl rfl rfl) rfl rfl rfl ?_
  refine LL.val (R.pick rfl rfl rfl) rfl rfl rfl ?_
  refine LL.val (R.assign rfl rfl) rfl rfl rfl ?_
  refine LL.nilS ?_
  refine CC.no rfl ?_
  refine CC.skip ?_
  refine EE.inN ?_
  refine EE.thenN ?_
  refine CC.seq ?_
  refine CC.region ?_
  refine LL.val (R.move rfl rfl) rfl rfl rfl ?_
  refine LL.val (R.mulcN rfl rfl rfl rfl (by omega)) rfl rfl rfl ?_
  refine LL.val (R.addNc rfl rfl rfl rfl (by omega)) rfl rfl rfl ?_
  refine LL.val (R.assign rfl rfl) rfl rfl rfl ?_
  refine LL.nilS ?_
  refine CC.ret ?_
  refine EE.ret _ rfl rfl ?_
  exact ⟨rfl, q⟩
theorem dwants_3 {slots slot key ptr ahead loads : Nat} {is : Bool} {w : World} (hs : slot < slots) (hS : slots ≤ 28) : Calls Try.prog 21 #[.agg #[.int .i64 1, .int .i64 (slots : Int), .int .i64 (slot : Int), .int .i64 3, .int .u64 (key : Int), .int .u64 (ptr : Int), .int .u64 (ahead : Int), .bool false, .bool is, .int .i64 (loads : Int)]] w fun e w' => e = .returned (.int .i64 ((2 * slot : Nat) : Int)) ∧ Below w.heap.size w w' := by
  have q := Below.refl w.heap.size w
  refine X.fn Try.func21 rfl (n := 42) rfl rfl ?_
  refine CC.seq ?_
  refine CC.region ?_
  refine LL.box [Value.int IntKind.i64 1, Value.int IntKind.i64 ↑slots, Value.int IntKind.i64 ↑slot, Value.int IntKind.i64 3, Value.int IntKind.u64 ↑key, Value.int IntKind.u64 ↑ptr, Value.int IntKind.u64 ↑ahead, Value.bool false, Value.bool is, Value.int IntKind.i64 ↑loads] rfl rfl rfl rfl rfl ?_
  intro W2 g3 eg3 r4 z5 b1
  replace q := q.trans (b1.mono q.size)
  refine LL.val (R.assign rfl rfl) rfl rfl rfl ?_
  refine LL.nilS ?_
  refine CC.seq ?_
  refine CC.region ?_
  refine LL.val (R.field rfl rfl (I.fld rfl)) rfl rfl rfl ?_
  refine LL.val (R.load rfl rfl (I.ld1 rfl (RowL.cell r4 rfl))) rfl rfl rfl ?_
  refine LL.val (R.assign rfl rfl) rfl rfl rfl ?_
  refine LL.nilS ?_
  refine CC.seq ?_
  refine CC.block ?_
  refine CC.seq ?_
  refine CC.region ?_
  refine LL.val (R.field rfl rfl (I.fld rfl)) rfl rfl rfl ?_
  refine LL.val (R.load rfl rfl (I.ld1 rfl (RowL.cell r4 rfl))) rfl rfl rfl ?_
  refine LL.val (R.eqF rfl rfl rfl (by omega)) rfl rfl rfl ?_
  refine LL.val (R.move rfl rfl) rfl rfl rfl ?_
  refine LL.val (R.field rfl rfl (I.fld rfl)) rfl rfl rfl ?_
  refine LL.val (R.load rfl rfl (I.ld1 rfl (RowL.cell r4 rfl))) rfl rfl rfl ?_
  refine LL.val (R.eqT rfl rfl rfl (by omega)) rfl rfl rfl ?_
  refine LL.val (R.pick rfl rfl rfl) rfl rfl rfl ?_
  refine LL.val (R.assign rfl rfl) rfl rfl rfl ?_
  refine LL.nilS ?_
  refine CC.yes rfl ?_
  refine CC.seq ?_
  refine CC.region ?_
  refine LL.val (R.move rfl rfl) rfl rfl rfl ?_
  refine LL.val (R.mulcN rfl rfl rfl rfl (by omega)) rfl rfl rfl ?_
  refine LL.val (R.assign rfl rfl) rfl rfl rfl ?_
  refine LL.nilS ?_
  refine CC.ret ?_
  refine EE.inR ?_
  refine EE.thenR ?_
  refine EE.ret _ rfl rfl ?_
  exact ⟨rfl, q⟩
theorem dwants_4 {slots slot key ptr ahead loads : Nat} {is : Bool} {w : World} (hs : slot < slots) (hS : slots ≤ 28) : Calls Try.prog 21 #[.agg #[.int .i64 1, .int .i64 (slots : Int), .int .i64 (slot : Int), .int .i64 4, .int .u64 (key : Int), .int .u64 (ptr : Int), .int .u64 (ahead : Int), .bool false, .bool is, .int .i64 (loads : Int)]] w fun e w' => e = .returned (.int .i64 ((2 * slot + 1 : Nat) : Int)) ∧ Below w.heap.size w w' := by
  have q := Below.refl w.heap.size w
  refine X.fn Try.func21 rfl (n := 42) rfl rfl ?_
  refine CC.seq ?_
  refine CC.region ?_
  refine LL.box [Value.int IntKind.i64 1, Value.int IntKind.i64 ↑slots, Value.int IntKind.i64 ↑slot, Value.int IntKind.i64 4, Value.int IntKind.u64 ↑key, Value.int IntKind.u64 ↑ptr, Value.int IntKind.u64 ↑ahead, Value.bool false, Value.bool is, Value.int IntKind.i64 ↑loads] rfl rfl rfl rfl rfl ?_
  intro W2 g3 eg3 r4 z5 b1
  replace q := q.trans (b1.mono q.size)
  refine LL.val (R.assign rfl rfl) rfl rfl rfl ?_
  refine LL.nilS ?_
  refine CC.seq ?_
  refine CC.region ?_
  refine LL.val (R.field rfl rfl (I.fld rfl)) rfl rfl rfl ?_
  refine LL.val (R.load rfl rfl (I.ld1 rfl (RowL.cell r4 rfl))) rfl rfl rfl ?_
  refine LL.val (R.assign rfl rfl) rfl rfl rfl ?_
  refine LL.nilS ?_
  refine CC.seq ?_
  refine CC.block ?_
  refine CC.seq ?_
  refine CC.region ?_
  refine LL.val (R.field rfl rfl (I.fld rfl)) rfl rfl rfl ?_
  refine LL.val (R.load rfl rfl (I.ld1 rfl (RowL.cell r4 rfl))) rfl rfl rfl ?_
  refine LL.val (R.eqF rfl rfl rfl (by omega)) rfl rfl rfl ?_
  refine LL.val (R.move rfl rfl) rfl rfl rfl ?_
  refine LL.val (R.field rfl rfl (I.fld rfl)) rfl rfl rfl ?_
  refine LL.val (R.load rfl rfl (I.ld1 rfl (RowL.cell r4 rfl))) rfl rfl rfl ?_
  refine LL.val (R.eqF rfl rfl rfl (by omega)) rfl rfl rfl ?_
  refine LL.val (R.pick rfl rfl rfl) rfl rfl rfl ?_
  refine LL.val (R.assign rfl rfl) rfl rfl rfl ?_
  refine LL.nilS ?_
  refine CC.no rfl ?_
  refine CC.seq ?_
  refine CC.region ?_
  refine LL.val (R.field rfl rfl (I.fld rfl)) rfl rfl rfl ?_
  refine LL.val (R.load rfl rfl (I.ld1 rfl (RowL.cell r4 rfl))) rfl rfl rfl ?_
  refine LL.val (R.eqT rfl rfl rfl (by omega)) rfl rfl rfl ?_
  refine LL.val (R.move rfl rfl) rfl rfl rfl ?_
  refine LL.val (R.field rfl rfl (I.fld rfl)) rfl rfl rfl ?_
  refine LL.val (R.load rfl rfl (I.ld1 rfl (RowL.cell r4 rfl))) rfl rfl rfl ?_
  refine LL.val (R.eqF rfl rfl rfl (by omega)) rfl rfl rfl ?_
  refine LL.val (R.pick rfl rfl rfl) rfl rfl rfl ?_
  refine LL.val (R.move rfl rfl) rfl rfl rfl ?_
  refine LL.val (R.field rfl rfl (I.fld rfl)) rfl rfl rfl ?_
  refine LL.val (R.load rfl rfl (I.ld1 rfl (RowL.cell r4 rfl))) rfl rfl rfl ?_
  refine LL.val (R.eqF rfl rfl rfl (by omega)) rfl rfl rfl ?_
  refine LL.val (R.move rfl rfl) rfl rfl rfl ?_
  refine LL.skip rfl rfl ?_
  refine LL.skip rfl rfl ?_
  refine LL.skip rfl rfl ?_
  refine LL.val (R.pick rfl rfl rfl) rfl rfl rfl ?_
  refine LL.val (R.pick rfl rfl rfl) rfl rfl rfl ?_
  refine LL.val (R.assign rfl rfl) rfl rfl rfl ?_
  refine LL.nilS ?_
  refine CC.no rfl ?_
  refine CC.skip ?_
  refine EE.inN ?_
  refine EE.thenN ?_
  refine CC.seq ?_
  refine CC.region ?_
  refine LL.val (R.move rfl rfl) rfl rfl rfl ?_
  refine LL.val (R.mulcN rfl rfl rfl rfl (by omega)) rfl rfl rfl ?_
  refine LL.val (R.addNc rfl rfl rfl rfl (by omega)) rfl rfl rfl ?_
  refine LL.val (R.assign rfl rfl) rfl rfl rfl ?_
  refine LL.nilS ?_
  refine CC.ret ?_
  refine EE.ret _ rfl rfl ?_
  exact ⟨rfl, q⟩
theorem dwants_5 {slots slot key ptr ahead loads : Nat} {is : Bool} {w : World} (hs : slot < slots) (hS : slots ≤ 28) : Calls Try.prog 21 #[.agg #[.int .i64 2, .int .i64 (slots : Int), .int .i64 (slot : Int), .int .i64 0, .int .u64 (key : Int), .int .u64 (ptr : Int), .int .u64 (ahead : Int), .bool false, .bool is, .int .i64 (loads : Int)]] w fun e w' => e = .returned (.int .i64 ((2 * slot : Nat) : Int)) ∧ Below w.heap.size w w' := by
  have q := Below.refl w.heap.size w
  refine X.fn Try.func21 rfl (n := 42) rfl rfl ?_
  refine CC.seq ?_
  refine CC.region ?_
  refine LL.box [Value.int IntKind.i64 2, Value.int IntKind.i64 ↑slots, Value.int IntKind.i64 ↑slot, Value.int IntKind.i64 0, Value.int IntKind.u64 ↑key, Value.int IntKind.u64 ↑ptr, Value.int IntKind.u64 ↑ahead, Value.bool false, Value.bool is, Value.int IntKind.i64 ↑loads] rfl rfl rfl rfl rfl ?_
  intro W2 g3 eg3 r4 z5 b1
  replace q := q.trans (b1.mono q.size)
  refine LL.val (R.assign rfl rfl) rfl rfl rfl ?_
  refine LL.nilS ?_
  refine CC.seq ?_
  refine CC.region ?_
  refine LL.val (R.field rfl rfl (I.fld rfl)) rfl rfl rfl ?_
  refine LL.val (R.load rfl rfl (I.ld1 rfl (RowL.cell r4 rfl))) rfl rfl rfl ?_
  refine LL.val (R.assign rfl rfl) rfl rfl rfl ?_
  refine LL.nilS ?_
  refine CC.seq ?_
  refine CC.block ?_
  refine CC.seq ?_
  refine CC.region ?_
  refine LL.val (R.field rfl rfl (I.fld rfl)) rfl rfl rfl ?_
  refine LL.val (R.load rfl rfl (I.ld1 rfl (RowL.cell r4 rfl))) rfl rfl rfl ?_
  refine LL.val (R.eqT rfl rfl rfl (by omega)) rfl rfl rfl ?_
  refine LL.val (R.move rfl rfl) rfl rfl rfl ?_
  refine LL.skip rfl rfl ?_
  refine LL.skip rfl rfl ?_
  refine LL.skip rfl rfl ?_
  refine LL.val (R.pick rfl rfl rfl) rfl rfl rfl ?_
  refine LL.val (R.assign rfl rfl) rfl rfl rfl ?_
  refine LL.nilS ?_
  refine CC.yes rfl ?_
  refine CC.seq ?_
  refine CC.region ?_
  refine LL.val (R.move rfl rfl) rfl rfl rfl ?_
  refine LL.val (R.mulcN rfl rfl rfl rfl (by omega)) rfl rfl rfl ?_
  refine LL.val (R.assign rfl rfl) rfl rfl rfl ?_
  refine LL.nilS ?_
  refine CC.ret ?_
  refine EE.inR ?_
  refine EE.thenR ?_
  refine EE.ret _ rfl rfl ?_
  exact ⟨rfl, q⟩
theorem dwants_6 {slots slot key ptr ahead loads : Nat} {is : Bool} {w : World} (hs : slot < slots) (hS : slots ≤ 28) : Calls Try.prog 21 #[.agg #[.int .i64 2, .int .i64 (slots : Int), .int .i64 (slot : Int), .int .i64 1, .int .u64 (key : Int), .int .u64 (ptr : Int), .int .u64 (ahead : Int), .bool false, .bool is, .int .i64 (loads : Int)]] w fun e w' => e = .returned (.int .i64 ((2 * slot + 1 : Nat) : Int)) ∧ Below w.heap.size w w' := by
  have q := Below.refl w.heap.size w
  refine X.fn Try.func21 rfl (n := 42) rfl rfl ?_
  refine CC.seq ?_
  refine CC.region ?_
  refine LL.box [Value.int IntKind.i64 2, Value.int IntKind.i64 ↑slots, Value.int IntKind.i64 ↑slot, Value.int IntKind.i64 1, Value.int IntKind.u64 ↑key, Value.int IntKind.u64 ↑ptr, Value.int IntKind.u64 ↑ahead, Value.bool false, Value.bool is, Value.int IntKind.i64 ↑loads] rfl rfl rfl rfl rfl ?_
  intro W2 g3 eg3 r4 z5 b1
  replace q := q.trans (b1.mono q.size)
  refine LL.val (R.assign rfl rfl) rfl rfl rfl ?_
  refine LL.nilS ?_
  refine CC.seq ?_
  refine CC.region ?_
  refine LL.val (R.field rfl rfl (I.fld rfl)) rfl rfl rfl ?_
  refine LL.val (R.load rfl rfl (I.ld1 rfl (RowL.cell r4 rfl))) rfl rfl rfl ?_
  refine LL.val (R.assign rfl rfl) rfl rfl rfl ?_
  refine LL.nilS ?_
  refine CC.seq ?_
  refine CC.block ?_
  refine CC.seq ?_
  refine CC.region ?_
  refine LL.val (R.field rfl rfl (I.fld rfl)) rfl rfl rfl ?_
  refine LL.val (R.load rfl rfl (I.ld1 rfl (RowL.cell r4 rfl))) rfl rfl rfl ?_
  refine LL.val (R.eqF rfl rfl rfl (by omega)) rfl rfl rfl ?_
  refine LL.val (R.move rfl rfl) rfl rfl rfl ?_
  refine LL.val (R.field rfl rfl (I.fld rfl)) rfl rfl rfl ?_
  refine LL.val (R.load rfl rfl (I.ld1 rfl (RowL.cell r4 rfl))) rfl rfl rfl ?_
  refine LL.val (R.eqF rfl rfl rfl (by omega)) rfl rfl rfl ?_
  refine LL.val (R.pick rfl rfl rfl) rfl rfl rfl ?_
  refine LL.val (R.assign rfl rfl) rfl rfl rfl ?_
  refine LL.nilS ?_
  refine CC.no rfl ?_
  refine CC.seq ?_
  refine CC.region ?_
  refine LL.val (R.field rfl rfl (I.fld rfl)) rfl rfl rfl ?_
  refine LL.val (R.load rfl rfl (I.ld1 rfl (RowL.cell r4 rfl))) rfl rfl rfl ?_
  refine LL.val (R.eqF rfl rfl rfl (by omega)) rfl rfl rfl ?_
  refine LL.val (R.move rfl rfl) rfl rfl rfl ?_
  refine LL.skip rfl rfl ?_
  refine LL.skip rfl rfl ?_
  refine LL.skip rfl rfl ?_
  refine LL.val (R.pick rfl rfl rfl) rfl rfl rfl ?_
  refine LL.val (R.move rfl rfl) rfl rfl rfl ?_
  refine LL.val (R.field rfl rfl (I.fld rfl)) rfl rfl rfl ?_
  refine LL.val (R.load rfl rfl (I.ld1 rfl (RowL.cell r4 rfl))) rfl rfl rfl ?_
  refine LL.val (R.eqT rfl rfl rfl (by omega)) rfl rfl rfl ?_
  refine LL.val (R.move rfl rfl) rfl rfl rfl ?_
  refine LL.val (R.field rfl rfl (I.fld rfl)) rfl rfl rfl ?_
  refine LL.val (R.load rfl rfl (I.ld1 rfl (RowL.cell r4 rfl))) rfl rfl rfl ?_
  refine LL.val (R.eqF rfl rfl rfl (by omega)) rfl rfl rfl ?_
  refine LL.val (R.pick rfl rfl rfl) rfl rfl rfl ?_
  refine LL.val (R.pick rfl rfl rfl) rfl rfl rfl ?_
  refine LL.val (R.assign rfl rfl) rfl rfl rfl ?_
  refine LL.nilS ?_
  refine CC.no rfl ?_
  refine CC.skip ?_
  refine EE.inN ?_
  refine EE.thenN ?_
  refine CC.seq ?_
  refine CC.region ?_
  refine LL.val (R.move rfl rfl) rfl rfl rfl ?_
  refine LL.val (R.mulcN rfl rfl rfl rfl (by omega)) rfl rfl rfl ?_
  refine LL.val (R.addNc rfl rfl rfl rfl (by omega)) rfl rfl rfl ?_
  refine LL.val (R.assign rfl rfl) rfl rfl rfl ?_
  refine LL.nilS ?_
  refine CC.ret ?_
  refine EE.ret _ rfl rfl ?_
  exact ⟨rfl, q⟩
theorem dwants_7 {slots slot key ptr ahead loads : Nat} {is : Bool} {w : World} (hs : slot < slots) (hS : slots ≤ 28) : Calls Try.prog 21 #[.agg #[.int .i64 2, .int .i64 (slots : Int), .int .i64 (slot : Int), .int .i64 2, .int .u64 (key : Int), .int .u64 (ptr : Int), .int .u64 (ahead : Int), .bool false, .bool is, .int .i64 (loads : Int)]] w fun e w' => e = .returned (.int .i64 (2 * (slot : Int) - 1)) ∧ Below w.heap.size w w' := by
  have q := Below.refl w.heap.size w
  refine X.fn Try.func21 rfl (n := 42) rfl rfl ?_
  refine CC.seq ?_
  refine CC.region ?_
  refine LL.box [Value.int IntKind.i64 2, Value.int IntKind.i64 ↑slots, Value.int IntKind.i64 ↑slot, Value.int IntKind.i64 2, Value.int IntKind.u64 ↑key, Value.int IntKind.u64 ↑ptr, Value.int IntKind.u64 ↑ahead, Value.bool false, Value.bool is, Value.int IntKind.i64 ↑loads] rfl rfl rfl rfl rfl ?_
  intro W2 g3 eg3 r4 z5 b1
  replace q := q.trans (b1.mono q.size)
  refine LL.val (R.assign rfl rfl) rfl rfl rfl ?_
  refine LL.nilS ?_
  refine CC.seq ?_
  refine CC.region ?_
  refine LL.val (R.field rfl rfl (I.fld rfl)) rfl rfl rfl ?_
  refine LL.val (R.load rfl rfl (I.ld1 rfl (RowL.cell r4 rfl))) rfl rfl rfl ?_
  refine LL.val (R.assign rfl rfl) rfl rfl rfl ?_
  refine LL.nilS ?_
  refine CC.seq ?_
  refine CC.block ?_
  refine CC.seq ?_
  refine CC.region ?_
  refine LL.val (R.field rfl rfl (I.fld rfl)) rfl rfl rfl ?_
  refine LL.val (R.load rfl rfl (I.ld1 rfl (RowL.cell r4 rfl))) rfl rfl rfl ?_
  refine LL.val (R.eqF rfl rfl rfl (by omega)) rfl rfl rfl ?_
  refine LL.val (R.move rfl rfl) rfl rfl rfl ?_
  refine LL.val (R.field rfl rfl (I.fld rfl)) rfl rfl rfl ?_
  refine LL.val (R.load rfl rfl (I.ld1 rfl (RowL.cell r4 rfl))) rfl rfl rfl ?_
  refine LL.val (R.eqF rfl rfl rfl (by omega)) rfl rfl rfl ?_
  refine LL.val (R.pick rfl rfl rfl) rfl rfl rfl ?_
  refine LL.val (R.assign rfl rfl) rfl rfl rfl ?_
  refine LL.nilS ?_
  refine CC.no rfl ?_
  refine CC.seq ?_
  refine CC.region ?_
  refine LL.val (R.field rfl rfl (I.fld rfl)) rfl rfl rfl ?_
  refine LL.val (R.load rfl rfl (I.ld1 rfl (RowL.cell r4 rfl))) rfl rfl rfl ?_
  refine LL.val (R.eqF rfl rfl rfl (by omega)) rfl rfl rfl ?_
  refine LL.val (R.move rfl rfl) rfl rfl rfl ?_
  refine LL.skip rfl rfl ?_
  refine LL.skip rfl rfl ?_
  refine LL.skip rfl rfl ?_
  refine LL.val (R.pick rfl rfl rfl) rfl rfl rfl ?_
  refine LL.val (R.move rfl rfl) rfl rfl rfl ?_
  refine LL.val (R.field rfl rfl (I.fld rfl)) rfl rfl rfl ?_
  refine LL.val (R.load rfl rfl (I.ld1 rfl (RowL.cell r4 rfl))) rfl rfl rfl ?_
  refine LL.val (R.eqT rfl rfl rfl (by omega)) rfl rfl rfl ?_
  refine LL.val (R.move rfl rfl) rfl rfl rfl ?_
  refine LL.val (R.field rfl rfl (I.fld rfl)) rfl rfl rfl ?_
  refine LL.val (R.load rfl rfl (I.ld1 rfl (RowL.cell r4 rfl))) rfl rfl rfl ?_
  refine LL.val (R.eqT rfl rfl rfl (by omega)) rfl rfl rfl ?_
  refine LL.val (R.pick rfl rfl rfl) rfl rfl rfl ?_
  refine LL.val (R.pick rfl rfl rfl) rfl rfl rfl ?_
  refine LL.val (R.assign rfl rfl) rfl rfl rfl ?_
  refine LL.nilS ?_
  refine CC.yes rfl ?_
  refine CC.seq ?_
  refine CC.region ?_
  refine LL.val (R.move rfl rfl) rfl rfl rfl ?_
  refine LL.val (R.mulcN rfl rfl rfl rfl (by omega)) rfl rfl rfl ?_
  refine LL.val (R.subI rfl rfl rfl (by omega)) rfl rfl rfl ?_
  refine LL.val (R.assign rfl rfl) rfl rfl rfl ?_
  refine LL.nilS ?_
  refine CC.ret ?_
  refine EE.inR ?_
  refine EE.thenR ?_
  refine EE.ret _ rfl rfl ?_
  exact ⟨rfl, q⟩
theorem dwants_8 {slots slot key ptr ahead loads : Nat} {is : Bool} {w : World} (hs : slot < slots) (hS : slots ≤ 28) : Calls Try.prog 21 #[.agg #[.int .i64 2, .int .i64 (slots : Int), .int .i64 (slot : Int), .int .i64 3, .int .u64 (key : Int), .int .u64 (ptr : Int), .int .u64 (ahead : Int), .bool false, .bool is, .int .i64 (loads : Int)]] w fun e w' => e = .returned (.int .i64 ((2 * slot : Nat) : Int)) ∧ Below w.heap.size w w' := by
  have q := Below.refl w.heap.size w
  refine X.fn Try.func21 rfl (n := 42) rfl rfl ?_
  refine CC.seq ?_
  refine CC.region ?_
  refine LL.box [Value.int IntKind.i64 2, Value.int IntKind.i64 ↑slots, Value.int IntKind.i64 ↑slot, Value.int IntKind.i64 3, Value.int IntKind.u64 ↑key, Value.int IntKind.u64 ↑ptr, Value.int IntKind.u64 ↑ahead, Value.bool false, Value.bool is, Value.int IntKind.i64 ↑loads] rfl rfl rfl rfl rfl ?_
  intro W2 g3 eg3 r4 z5 b1
  replace q := q.trans (b1.mono q.size)
  refine LL.val (R.assign rfl rfl) rfl rfl rfl ?_
  refine LL.nilS ?_
  refine CC.seq ?_
  refine CC.region ?_
  refine LL.val (R.field rfl rfl (I.fld rfl)) rfl rfl rfl ?_
  refine LL.val (R.load rfl rfl (I.ld1 rfl (RowL.cell r4 rfl))) rfl rfl rfl ?_
  refine LL.val (R.assign rfl rfl) rfl rfl rfl ?_
  refine LL.nilS ?_
  refine CC.seq ?_
  refine CC.block ?_
  refine CC.seq ?_
  refine CC.region ?_
  refine LL.val (R.field rfl rfl (I.fld rfl)) rfl rfl rfl ?_
  refine LL.val (R.load rfl rfl (I.ld1 rfl (RowL.cell r4 rfl))) rfl rfl rfl ?_
  refine LL.val (R.eqF rfl rfl rfl (by omega)) rfl rfl rfl ?_
  refine LL.val (R.move rfl rfl) rfl rfl rfl ?_
  refine LL.val (R.field rfl rfl (I.fld rfl)) rfl rfl rfl ?_
  refine LL.val (R.load rfl rfl (I.ld1 rfl (RowL.cell r4 rfl))) rfl rfl rfl ?_
  refine LL.val (R.eqT rfl rfl rfl (by omega)) rfl rfl rfl ?_
  refine LL.val (R.pick rfl rfl rfl) rfl rfl rfl ?_
  refine LL.val (R.assign rfl rfl) rfl rfl rfl ?_
  refine LL.nilS ?_
  refine CC.yes rfl ?_
  refine CC.seq ?_
  refine CC.region ?_
  refine LL.val (R.move rfl rfl) rfl rfl rfl ?_
  refine LL.val (R.mulcN rfl rfl rfl rfl (by omega)) rfl rfl rfl ?_
  refine LL.val (R.assign rfl rfl) rfl rfl rfl ?_
  refine LL.nilS ?_
  refine CC.ret ?_
  refine EE.inR ?_
  refine EE.thenR ?_
  refine EE.ret _ rfl rfl ?_
  exact ⟨rfl, q⟩
theorem dwants_any (d : Dr) {w : World} (hk : d.k ≤ 8) (hd : d.dn = false) (slot : Nat) (h0 : d.slot = slot) (hs : slot < d.slots) (hS : d.slots ≤ 28) : Calls Try.prog 21 #[drA d] w fun e w' => e = .returned (.int .i64 (wantI d.k slot)) ∧ Below w.heap.size w w' := by
  obtain ⟨k, slots, slot', key, ptr, ahead, dn, is, loads⟩ := d
  simp only at hk hd h0 hs hS
  subst hd h0
  rcases (by omega : k = 0 ∨ k = 1 ∨ k = 2 ∨ k = 3 ∨ k = 4 ∨ k = 5 ∨ k = 6 ∨ k = 7 ∨ k = 8) with rfl | rfl | rfl | rfl | rfl | rfl | rfl | rfl | rfl
  · exact dwants_0 hs hS
  · exact dwants_1 hs hS
  · exact dwants_2 hs hS
  · exact dwants_3 hs hS
  · exact dwants_4 hs hS
  · exact dwants_5 hs hS
  · exact dwants_6 hs hS
  · exact dwants_7 hs hS
  · exact dwants_8 hs hS
theorem dfound_any (d : Dr) {w : World} : Calls Try.prog 19 #[drA d] w fun e w' => e = .returned (.tuple #[.int .u64 ((if d.dn = true ∧ d.is = true then d.ptr else 0 : Nat) : Int), .bool (d.dn && d.is)]) ∧ Below w.heap.size w w' := by
  have q := Below.refl w.heap.size w
  obtain ⟨k, slots, slot, key, ptr, ahead, dn, is, loads⟩ := d
  cases dn
  · rw [show drA ⟨k, slots, slot, key, ptr, ahead, false, is, loads⟩ = .agg #[.int .i64 (wayD k), .int .i64 (slots : Int), .int .i64 slot, .int .i64 (stepD k), .int .u64 (key : Int), .int .u64 (ptr : Int), .int .u64 (ahead : Int), .bool false, .bool is, .int .i64 (loads : Int)] from rfl]
    refine X.fn Try.func19 rfl (n := 12) rfl rfl ?_
    refine CC.seq ?_
    refine CC.region ?_
    refine LL.box [Value.int IntKind.i64 (wayD k), Value.int IntKind.i64 ↑slots, Value.int IntKind.i64 slot, Value.int IntKind.i64 (stepD k), Value.int IntKind.u64 ↑key, Value.int IntKind.u64 ↑ptr, Value.int IntKind.u64 ↑ahead, Value.bool false, Value.bool is, Value.int IntKind.i64 ↑loads] rfl rfl rfl rfl rfl ?_
    intro W2 g3 eg3 r4 z5 b1
    replace q := q.trans (b1.mono q.size)
    refine LL.val (R.assign rfl rfl) rfl rfl rfl ?_
    refine LL.val (R.assign rfl rfl) rfl rfl rfl ?_
    refine LL.nilS ?_
    refine CC.seq ?_
    refine CC.seq ?_
    refine CC.region ?_
    refine LL.val (R.field rfl rfl (I.fld rfl)) rfl rfl rfl ?_
    refine LL.val (R.load rfl rfl (I.ld1 rfl (RowL.cell r4 rfl))) rfl rfl rfl ?_
    refine LL.val (R.move rfl rfl) rfl rfl rfl ?_
    refine LL.skip rfl rfl ?_
    refine LL.skip rfl rfl ?_
    refine LL.val (R.pick rfl rfl rfl) rfl rfl rfl ?_
    refine LL.nilS ?_
    refine CC.no rfl ?_
    refine CC.skip ?_
    refine EE.thenN ?_
    refine CC.seq ?_
    refine CC.region ?_
    refine LL.val (R.assign rfl rfl) rfl rfl rfl ?_
    refine LL.val (R.assign rfl rfl) rfl rfl rfl ?_
    refine LL.nilS ?_
    refine CC.ret ?_
    refine EE.ret _ rfl rfl ?_
    exact ⟨rfl, q⟩
  cases is
  · rw [show drA ⟨k, slots, slot, key, ptr, ahead, true, false, loads⟩ = .agg #[.int .i64 (wayD k), .int .i64 (slots : Int), .int .i64 slot, .int .i64 (stepD k), .int .u64 (key : Int), .int .u64 (ptr : Int), .int .u64 (ahead : Int), .bool true, .bool false, .int .i64 (loads : Int)] from rfl]
    refine X.fn Try.func19 rfl (n := 12) rfl rfl ?_
    refine CC.seq ?_
    refine CC.region ?_
    refine LL.box [Value.int IntKind.i64 (wayD k), Value.int IntKind.i64 ↑slots, Value.int IntKind.i64 slot, Value.int IntKind.i64 (stepD k), Value.int IntKind.u64 ↑key, Value.int IntKind.u64 ↑ptr, Value.int IntKind.u64 ↑ahead, Value.bool true, Value.bool false, Value.int IntKind.i64 ↑loads] rfl rfl rfl rfl rfl ?_
    intro Wa2 ga3 ega3 ra4 za5 ba1
    replace q := q.trans (ba1.mono q.size)
    refine LL.val (R.assign rfl rfl) rfl rfl rfl ?_
    refine LL.val (R.assign rfl rfl) rfl rfl rfl ?_
    refine LL.nilS ?_
    refine CC.seq ?_
    refine CC.seq ?_
    refine CC.region ?_
    refine LL.val (R.field rfl rfl (I.fld rfl)) rfl rfl rfl ?_
    refine LL.val (R.load rfl rfl (I.ld1 rfl (RowL.cell ra4 rfl))) rfl rfl rfl ?_
    refine LL.val (R.move rfl rfl) rfl rfl rfl ?_
    refine LL.val (R.field rfl rfl (I.fld rfl)) rfl rfl rfl ?_
    refine LL.val (R.load rfl rfl (I.ld1 rfl (RowL.cell ra4 rfl))) rfl rfl rfl ?_
    refine LL.val (R.pick rfl rfl rfl) rfl rfl rfl ?_
    refine LL.nilS ?_
    refine CC.no rfl ?_
    refine CC.skip ?_
    refine EE.thenN ?_
    refine CC.seq ?_
    refine CC.region ?_
    refine LL.val (R.assign rfl rfl) rfl rfl rfl ?_
    refine LL.val (R.assign rfl rfl) rfl rfl rfl ?_
    refine LL.nilS ?_
    refine CC.ret ?_
    refine EE.ret _ rfl rfl ?_
    exact ⟨rfl, q⟩
  · rw [show drA ⟨k, slots, slot, key, ptr, ahead, true, true, loads⟩ = .agg #[.int .i64 (wayD k), .int .i64 (slots : Int), .int .i64 slot, .int .i64 (stepD k), .int .u64 (key : Int), .int .u64 (ptr : Int), .int .u64 (ahead : Int), .bool true, .bool true, .int .i64 (loads : Int)] from rfl]
    refine X.fn Try.func19 rfl (n := 12) rfl rfl ?_
    refine CC.seq ?_
    refine CC.region ?_
    refine LL.box [Value.int IntKind.i64 (wayD k), Value.int IntKind.i64 ↑slots, Value.int IntKind.i64 slot, Value.int IntKind.i64 (stepD k), Value.int IntKind.u64 ↑key, Value.int IntKind.u64 ↑ptr, Value.int IntKind.u64 ↑ahead, Value.bool true, Value.bool true, Value.int IntKind.i64 ↑loads] rfl rfl rfl rfl rfl ?_
    intro Wb2 gb3 egb3 rb4 zb5 bb1
    replace q := q.trans (bb1.mono q.size)
    refine LL.val (R.assign rfl rfl) rfl rfl rfl ?_
    refine LL.val (R.assign rfl rfl) rfl rfl rfl ?_
    refine LL.nilS ?_
    refine CC.seq ?_
    refine CC.seq ?_
    refine CC.region ?_
    refine LL.val (R.field rfl rfl (I.fld rfl)) rfl rfl rfl ?_
    refine LL.val (R.load rfl rfl (I.ld1 rfl (RowL.cell rb4 rfl))) rfl rfl rfl ?_
    refine LL.val (R.move rfl rfl) rfl rfl rfl ?_
    refine LL.val (R.field rfl rfl (I.fld rfl)) rfl rfl rfl ?_
    refine LL.val (R.load rfl rfl (I.ld1 rfl (RowL.cell rb4 rfl))) rfl rfl rfl ?_
    refine LL.val (R.pick rfl rfl rfl) rfl rfl rfl ?_
    refine LL.nilS ?_
    refine CC.yes rfl ?_
    refine CC.seq ?_
    refine CC.region ?_
    refine LL.val (R.field rfl rfl (I.fld rfl)) rfl rfl rfl ?_
    refine LL.val (R.load rfl rfl (I.ld1 rfl (RowL.cell rb4 rfl))) rfl rfl rfl ?_
    refine LL.val (R.assign rfl rfl) rfl rfl rfl ?_
    refine LL.val (R.assign rfl rfl) rfl rfl rfl ?_
    refine LL.nilS ?_
    refine CC.ret ?_
    refine EE.thenR ?_
    refine EE.ret _ rfl rfl ?_
    exact ⟨rfl, q⟩
end Go.Proofs.Ytloflmkolnediaa

/- scan: a reader stands as the document's. -/
namespace Go.Proofs.Ytloflmkolnediaa
set_option linter.unusedVariables false
set_option linter.unusedSimpArgs false
open Go.RowKit Go.Shelf
set_option maxRecDepth 100000
set_option maxHeartbeats 8000000
structure Sim (r : Rd) (d : Dr) : Prop where
  slots : d.slots = r.slots
  key : d.key = r.key
  loads : d.loads = r.loads
  dn : d.dn = r.dn
  run : r.dn = false → d.slot = (r.slot : Int) ∧ d.k = r.k ∧ d.is = false ∧ ((r.k = 2 ∨ r.k = 3 ∨ r.k = 8) → d.ahead = r.ahead) ∧ ((r.k = 3 ∨ r.k = 7 ∨ r.k = 8) → d.ptr = r.ptr) ∧ ((r.k = 7 ∨ r.k = 8) → r.ptr ≠ 0)
  fin : r.dn = true → d.is = r.is ∧ (r.is = true → d.ptr = r.found) ∧ (r.is = false → r.found = 0)
theorem sim_give {r : Rd} {d : Dr} (h : Sim r d) (hi : InvR r) (hd : r.dn = false) (v : Nat) : Sim (giveR r v) (giveD d v) := by
  obtain ⟨key, slots, slot, ahead, ptr, loads, found, is, dn, k⟩ := r
  obtain ⟨k', slots', slot', key', ptr', ahead', dn', is', loads'⟩ := d
  obtain ⟨h1, h2, h3, h4, hr, -⟩ := h
  obtain ⟨i1, i2, i3, -, ir⟩ := hi
  simp only at h1 h2 h3 h4 i1 i2 i3 hd
  subst hd
  obtain ⟨h5, h6, h7, h8, h9, h10⟩ := hr rfl
  obtain ⟨i5, i6⟩ := ir rfl
  clear hr ir
  simp only at h5 h6 h7 h8 h9 h10 i5 i6
  subst h1 h2 h3 h4 h5 h6 h7 i5 i6
  rcases (by omega : k' = 0 ∨ k' = 1 ∨ k' = 2 ∨ k' = 3 ∨ k' = 4 ∨ k' = 5 ∨ k' = 6 ∨ k' = 7 ∨ k' = 8) with rfl | rfl | rfl | rfl | rfl | rfl | rfl | rfl | rfl <;>
    simp only [giveR, gotR, giveD, gotD, endD, goesD, upOnR, downOnR, endR] at h8 h9 h10 ⊢ <;> (repeat' split) <;>
    (first | (refine ⟨?_, ?_, ?_, ?_, ?_, ?_⟩ <;> simp_all <;> omega) | (exfalso; simp_all; omega) | (refine ⟨?_, ?_, ?_, ?_, ?_, ?_⟩ <;> simp_all))
end Go.Proofs.Ytloflmkolnediaa
