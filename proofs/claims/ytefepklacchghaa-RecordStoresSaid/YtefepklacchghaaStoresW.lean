/- RecordStores: the walk. -/
import Derived.Test.YtefepklacchghaaStor2
import Derived.Test.YtefepklacchghaaWordsW
import Derived.Test.YtefepklacchghaaOpenI
namespace Go.Proofs.Ytefepklacchghaa
set_option linter.unusedVariables false
set_option linter.unusedSimpArgs false
open Go.RowKit Go.Shelf
/-- The words behind so many of the stores. -/
def csOk (ws cs : List Nat) (i : Nat) : Prop := cs.length = 16 ∧ (i < 16 → cs[0]? = some 0) ∧ (∀ j, 1 ≤ j → j ≤ i → j < 16 → cs[j]? = ws[j]?) ∧ (i = 16 → cs[0]? = ws[0]?)
theorem cs_step {ws cs : List Nat} {i y : Nat} (h : csOk ws cs i) (hi : i < 16) (hy : ws[(i + 1) % 16]? = some y) : csOk ws (cs.set ((i + 1) % 16) y) (i + 1) := by
  obtain ⟨hl, h0, hm, he⟩ := h
  refine ⟨by simpa using hl, fun h => ?_, fun j h1 h2 h3 => ?_, fun h => ?_⟩
  · rw [List.getElem?_set_ne (by omega)]
    exact h0 hi
  · by_cases e : (i + 1) % 16 = j
    · rw [e, List.getElem?_set_self (by omega), ← hy, e]
    · rw [List.getElem?_set_ne e]
      exact hm j h1 (by omega) h3
  · obtain rfl : i = 15 := by omega
    rw [List.getElem?_set_self (by omega), ← hy]
theorem cs_end {ws cs : List Nat} (h : csOk ws cs 16) (hl : ws.length = 16) : cs = ws := by
  obtain ⟨hc, _, hm, he⟩ := h
  refine List.ext_getElem? fun j => ?_
  by_cases hj : j < 16
  · by_cases h0 : j = 0
    · subst h0; exact he rfl
    · exact hm j (by omega) (by omega) hj
  · rw [List.getElem?_eq_none (by omega), List.getElem?_eq_none (by omega)]
/-- Sixteen numbers. -/
abbrev sixV (a : Nat → Nat) : Value := .agg #[.int .u64 (a 0 : Int), .int .u64 (a 1 : Int), .int .u64 (a 2 : Int), .int .u64 (a 3 : Int), .int .u64 (a 4 : Int), .int .u64 (a 5 : Int), .int .u64 (a 6 : Int), .int .u64 (a 7 : Int), .int .u64 (a 8 : Int), .int .u64 (a 9 : Int), .int .u64 (a 10 : Int), .int .u64 (a 11 : Int), .int .u64 (a 12 : Int), .int .u64 (a 13 : Int), .int .u64 (a 14 : Int), .int .u64 (a 15 : Int)]
set_option maxRecDepth 100000 in
set_option maxHeartbeats 8000000 in
theorem stores_big (a : Nat → Nat) (n : Int) (l : Bs) (w : World) (hl : l.length ≤ 9223372036854775807) (h : 300 < l.length) : Calls Try.prog 5 #[sixV a, recV n l] w fun x w' => x = .returned (.bool true) ∧ Below w.heap.size w w' := by
  have q := Below.refl w.heap.size w
  refine X.fn Try.func5 rfl (n := 103) rfl rfl ?_
  refine CC.seq ?_
  refine CC.region ?_
  refine LL.box [Value.int IntKind.u64 ↑(a 0), Value.int IntKind.u64 ↑(a 1), Value.int IntKind.u64 ↑(a 2), Value.int IntKind.u64 ↑(a 3), Value.int IntKind.u64 ↑(a 4), Value.int IntKind.u64 ↑(a 5), Value.int IntKind.u64 ↑(a 6), Value.int IntKind.u64 ↑(a 7), Value.int IntKind.u64 ↑(a 8), Value.int IntKind.u64 ↑(a 9), Value.int IntKind.u64 ↑(a 10), Value.int IntKind.u64 ↑(a 11), Value.int IntKind.u64 ↑(a 12), Value.int IntKind.u64 ↑(a 13), Value.int IntKind.u64 ↑(a 14), Value.int IntKind.u64 ↑(a 15)] rfl rfl rfl rfl rfl ?_
  intro W2 g3 eg3 r4 z5 b1
  replace q := q.trans (b1.mono q.size)
  have l6 := r4.lt
  refine LL.box [Value.int IntKind.i64 n, strV l] rfl rfl rfl rfl rfl ?_
  intro W8 g9 eg9 r10 z11 b7
  replace r4 := r4.up b7
  replace b1 := b1.trans (b7.mono b1.size)
  replace q := q.trans (b7.mono q.size)
  refine LL.val (R.assign rfl rfl) rfl rfl rfl ?_
  refine LL.nilS ?_
  refine CC.seq ?_
  refine CC.seq ?_
  refine CC.region ?_
  refine LL.val (R.field rfl rfl (I.fld rfl)) rfl rfl rfl ?_
  refine LL.val (R.load rfl rfl (I.ld1 rfl (RowL.cell r10 rfl))) rfl rfl rfl ?_
  refine LL.val (R.lenS rfl rfl rfl rfl) rfl rfl rfl ?_
  refine LL.val (R.gtT rfl rfl rfl (by omega)) rfl rfl rfl ?_
  refine LL.nilS ?_
  refine CC.yes rfl ?_
  refine CC.seq ?_
  refine CC.region ?_
  refine LL.call (R.call rfl rfl rfl) rfl rfl rfl (works_any _) ?_
  rintro e W13 ⟨rfl, b12⟩
  refine ⟨_, rfl, ?_⟩
  have zb12 := b12.size
  replace r10 := r10.up b12
  replace b7 := b7.trans (b12.mono b7.size)
  replace r4 := r4.up b12
  replace b1 := b1.trans (b12.mono b1.size)
  replace q := q.trans (b12.mono q.size)
  refine LL.val (R.assign rfl rfl) rfl rfl rfl ?_
  refine LL.nilS ?_
  refine CC.ret ?_
  refine EE.thenR ?_
  refine EE.ret _ rfl rfl ?_
  exact ⟨rfl, q⟩
--C record_Stores | hwB1 @w | ⟨rfl, @b⟩
--C ref15_Stores | hwB2 @w | ⟨rfl, @b⟩
--C ref08_SamePuts | hwB3 @w | ⟨rfl, @b⟩
set_option maxRecDepth 100000 in
set_option maxHeartbeats 8000000 in
theorem stores_bad (a : Nat → Nat) (n : Int) (l : Bs) (w : World) (hl : l.length ≤ 300) (h : ¬okR n l) : Calls Try.prog 5 #[sixV a, recV n l] w fun x w' => x = .returned (.bool true) ∧ Below w.heap.size w w' := by
  have q := Below.refl w.heap.size w
  have hwB1 := fun W => stores_F n l W (by omega) h
  have hwB2 := fun W => rstores_F n l W (by omega) h
  have hn : ∀ W, ReadsT pE 2 W (.slice none 0 0) ([] : List Pt) := fun W => ReadsT.nil W
  have hwB3 : ∀ W, Calls Try.prog 17 #[.slice none 0 0, .slice none 0 0] W fun e w' => e = .returned (.bool true) ∧ Below W.heap.size W w' := fun W => psame_any _ _ [] [] W (hn W) (hn W) (by simp) (by simp)
  refine X.fn Try.func5 rfl (n := 103) rfl rfl ?_
  refine CC.seq ?_
  refine CC.region ?_
  refine LL.box [Value.int IntKind.u64 ↑(a 0), Value.int IntKind.u64 ↑(a 1), Value.int IntKind.u64 ↑(a 2), Value.int IntKind.u64 ↑(a 3), Value.int IntKind.u64 ↑(a 4), Value.int IntKind.u64 ↑(a 5), Value.int IntKind.u64 ↑(a 6), Value.int IntKind.u64 ↑(a 7), Value.int IntKind.u64 ↑(a 8), Value.int IntKind.u64 ↑(a 9), Value.int IntKind.u64 ↑(a 10), Value.int IntKind.u64 ↑(a 11), Value.int IntKind.u64 ↑(a 12), Value.int IntKind.u64 ↑(a 13), Value.int IntKind.u64 ↑(a 14), Value.int IntKind.u64 ↑(a 15)] rfl rfl rfl rfl rfl ?_
  intro W2 g3 eg3 r4 z5 b1
  replace q := q.trans (b1.mono q.size)
  have l6 := r4.lt
  refine LL.box [Value.int IntKind.i64 n, strV l] rfl rfl rfl rfl rfl ?_
  intro W8 g9 eg9 r10 z11 b7
  replace r4 := r4.up b7
  replace b1 := b1.trans (b7.mono b1.size)
  replace q := q.trans (b7.mono q.size)
  refine LL.val (R.assign rfl rfl) rfl rfl rfl ?_
  refine LL.nilS ?_
  refine CC.seq ?_
  refine CC.seq ?_
  refine CC.region ?_
  refine LL.val (R.field rfl rfl (I.fld rfl)) rfl rfl rfl ?_
  refine LL.val (R.load rfl rfl (I.ld1 rfl (RowL.cell r10 rfl))) rfl rfl rfl ?_
  refine LL.val (R.lenS rfl rfl rfl rfl) rfl rfl rfl ?_
  refine LL.val (R.gtF rfl rfl rfl (by omega)) rfl rfl rfl ?_
  refine LL.nilS ?_
  refine CC.no rfl ?_
  refine CC.skip ?_
  refine EE.thenN ?_
  refine CC.seq ?_
  refine CC.region ?_
  refine LL.val (R.load rfl rfl (I.ldNc (vs := [Value.int IntKind.i64 n, strV l]) (RowL.cells r10 rfl) (by rfl) (by rfl))) rfl rfl rfl ?_
  refine LL.call (R.call rfl rfl rfl) rfl rfl rfl (hwB1 _) ?_
  rintro e W13 ⟨rfl, b12⟩
  refine ⟨_, rfl, ?_⟩
  have zb12 := b12.size
  replace r10 := r10.up b12
  replace b7 := b7.trans (b12.mono b7.size)
  replace r4 := r4.up b12
  replace b1 := b1.trans (b12.mono b1.size)
  replace q := q.trans (b12.mono q.size)
  refine LL.val (R.move rfl rfl) rfl rfl rfl ?_
  refine LL.val (R.extract rfl rfl rfl) rfl rfl rfl ?_
  refine LL.val (R.extract rfl rfl rfl) rfl rfl rfl ?_
  refine LL.val (R.assign rfl rfl) rfl rfl rfl ?_
  refine LL.val (R.assign rfl rfl) rfl rfl rfl ?_
  refine LL.nilS ?_
  refine CC.seq ?_
  refine CC.region ?_
  refine LL.val (R.load rfl rfl (I.ldNc (vs := [Value.int IntKind.i64 n, strV l]) (RowL.cells r10 rfl) (by rfl) (by rfl))) rfl rfl rfl ?_
  refine LL.call (R.call rfl rfl rfl) rfl rfl rfl (hwB2 _) ?_
  rintro e W16 ⟨rfl, b15⟩
  refine ⟨_, rfl, ?_⟩
  have zb15 := b15.size
  replace b12 := b12.trans (b15.mono b12.size)
  replace r10 := r10.up b15
  replace b7 := b7.trans (b15.mono b7.size)
  replace r4 := r4.up b15
  replace b1 := b1.trans (b15.mono b1.size)
  replace q := q.trans (b15.mono q.size)
  refine LL.val (R.move rfl rfl) rfl rfl rfl ?_
  refine LL.val (R.extract rfl rfl rfl) rfl rfl rfl ?_
  refine LL.val (R.extract rfl rfl rfl) rfl rfl rfl ?_
  refine LL.val (R.assign rfl rfl) rfl rfl rfl ?_
  refine LL.val (R.assign rfl rfl) rfl rfl rfl ?_
  refine LL.nilS ?_
  refine CC.seq ?_
  refine CC.seq ?_
  refine CC.region ?_
  refine LL.val (R.move rfl rfl) rfl rfl rfl ?_
  refine LL.val (R.move rfl rfl) rfl rfl rfl ?_
  refine LL.call (R.call rfl rfl rfl) rfl rfl rfl (hwB3 _) ?_
  rintro e W19 ⟨rfl, b18⟩
  refine ⟨_, rfl, ?_⟩
  have zb18 := b18.size
  replace b15 := b15.trans (b18.mono b15.size)
  replace b12 := b12.trans (b18.mono b12.size)
  replace r10 := r10.up b18
  replace b7 := b7.trans (b18.mono b7.size)
  replace r4 := r4.up b18
  replace b1 := b1.trans (b18.mono b1.size)
  replace q := q.trans (b18.mono q.size)
  refine LL.val (R.not rfl rfl) rfl rfl rfl ?_
  refine LL.val (R.move rfl rfl) rfl rfl rfl ?_
  refine LL.val (R.move rfl rfl) rfl rfl rfl ?_
  refine LL.call (R.call rfl rfl rfl) rfl rfl rfl (num_any _ _) ?_
  rintro e W' ⟨rfl, rfl⟩
  refine ⟨_, rfl, ?_⟩
  refine LL.val (R.move rfl rfl) rfl rfl rfl ?_
  refine LL.val (R.neF rfl rfl rfl (by omega)) rfl rfl rfl ?_
  refine LL.val (R.pick rfl rfl rfl) rfl rfl rfl ?_
  refine LL.nilS ?_
  refine CC.no rfl ?_
  refine CC.skip ?_
  refine EE.thenN ?_
  refine CC.seq ?_
  refine CC.seq ?_
  refine CC.region ?_
  refine LL.val (R.move rfl rfl) rfl rfl rfl ?_
  refine LL.val (R.neT rfl rfl rfl (by omega)) rfl rfl rfl ?_
  refine LL.nilS ?_
  refine CC.yes rfl ?_
  refine CC.seq ?_
  refine CC.region ?_
  refine LL.call (R.call rfl rfl rfl) rfl rfl rfl (works_any _) ?_
  rintro e W22 ⟨rfl, b21⟩
  refine ⟨_, rfl, ?_⟩
  have zb21 := b21.size
  replace b18 := b18.trans (b21.mono b18.size)
  replace b15 := b15.trans (b21.mono b15.size)
  replace b12 := b12.trans (b21.mono b12.size)
  replace r10 := r10.up b21
  replace b7 := b7.trans (b21.mono b7.size)
  replace r4 := r4.up b21
  replace b1 := b1.trans (b21.mono b1.size)
  replace q := q.trans (b21.mono q.size)
  refine LL.val (R.assign rfl rfl) rfl rfl rfl ?_
  refine LL.nilS ?_
  refine CC.ret ?_
  refine EE.thenR ?_
  refine EE.ret _ rfl rfl ?_
  exact ⟨rfl, q⟩
set_option maxRecDepth 100000 in
set_option maxHeartbeats 8000000 in
theorem stores_good (a : Nat → Nat) (n : Nat) (l : Bs) (w : World) (hl : l.length ≤ 300) (h : okR n l) : Calls Try.prog 5 #[sixV a, recV n l] w fun x w' => x = .returned (.bool true) ∧ Below w.heap.size w w' := by
  have q := Below.refl w.heap.size w
  have hlr := recW_len (n := n) (nameN_len h.2).2
  have hpl := putsR_len (recW n l)
  refine X.fn Try.func5 rfl (n := 103) rfl rfl ?_
  refine CC.seq ?_
  refine CC.region ?_
  refine LL.box [Value.int IntKind.u64 ↑(a 0), Value.int IntKind.u64 ↑(a 1), Value.int IntKind.u64 ↑(a 2), Value.int IntKind.u64 ↑(a 3), Value.int IntKind.u64 ↑(a 4), Value.int IntKind.u64 ↑(a 5), Value.int IntKind.u64 ↑(a 6), Value.int IntKind.u64 ↑(a 7), Value.int IntKind.u64 ↑(a 8), Value.int IntKind.u64 ↑(a 9), Value.int IntKind.u64 ↑(a 10), Value.int IntKind.u64 ↑(a 11), Value.int IntKind.u64 ↑(a 12), Value.int IntKind.u64 ↑(a 13), Value.int IntKind.u64 ↑(a 14), Value.int IntKind.u64 ↑(a 15)] rfl rfl rfl rfl rfl ?_
  intro W2 g3 eg3 r4 z5 b1
  replace q := q.trans (b1.mono q.size)
  have l6 := r4.lt
  refine LL.box [Value.int IntKind.i64 ↑n, strV l] rfl rfl rfl rfl rfl ?_
  intro W8 g9 eg9 r10 z11 b7
  replace r4 := r4.up b7
  replace b1 := b1.trans (b7.mono b1.size)
  replace q := q.trans (b7.mono q.size)
  refine LL.val (R.assign rfl rfl) rfl rfl rfl ?_
  refine LL.nilS ?_
  refine CC.seq ?_
  refine CC.seq ?_
  refine CC.region ?_
  refine LL.val (R.field rfl rfl (I.fld rfl)) rfl rfl rfl ?_
  refine LL.val (R.load rfl rfl (I.ld1 rfl (RowL.cell r10 rfl))) rfl rfl rfl ?_
  refine LL.val (R.lenS rfl rfl rfl rfl) rfl rfl rfl ?_
  refine LL.val (R.gtF rfl rfl rfl (by omega)) rfl rfl rfl ?_
  refine LL.nilS ?_
  refine CC.no rfl ?_
  refine CC.skip ?_
  refine EE.thenN ?_
  refine CC.seq ?_
  refine CC.region ?_
  refine LL.val (R.load rfl rfl (I.ldNc (vs := [Value.int IntKind.i64 ↑n, strV l]) (RowL.cells r10 rfl) (by rfl) (by rfl))) rfl rfl rfl ?_
  refine LL.call (R.call rfl rfl rfl) rfl rfl rfl (stores_T n l _ h) ?_
  rintro e W1 ⟨v, rfl, o, b1⟩
  refine ⟨_, rfl, ?_⟩
  have y1 := b1.size
  replace q := q.trans (b1.mono q.size)
  replace r4 := r4.up b1
  replace r10 := r10.up b1
  have h1 := o.reads pEnc
  obtain ⟨av, cv, rfl, hcv⟩ := h1.form hpl
  clear b1 o
  refine LL.val (R.move rfl rfl) rfl rfl rfl ?_
  refine LL.val (R.extract rfl rfl rfl) rfl rfl rfl ?_
  refine LL.val (R.extract rfl rfl rfl) rfl rfl rfl ?_
  refine LL.val (R.assign rfl rfl) rfl rfl rfl ?_
  refine LL.val (R.assign rfl rfl) rfl rfl rfl ?_
  refine LL.nilS ?_
  refine CC.seq ?_
  refine CC.region ?_
  refine LL.val (R.load rfl rfl (I.ldNc (vs := [Value.int IntKind.i64 ↑n, strV l]) (RowL.cells r10 rfl) (by rfl) (by rfl))) rfl rfl rfl ?_
  refine LL.call (R.call rfl rfl rfl) rfl rfl rfl (rstores_T n l _ h) ?_
  rintro e W3 ⟨v2, rfl, o2, b2⟩
  refine ⟨_, rfl, ?_⟩
  have y2 := b2.size
  replace q := q.trans (b2.mono q.size)
  replace r4 := r4.up b2
  replace r10 := r10.up b2
  replace h1 := h1.up b2
  have h2 := o2.reads pEnc
  clear b2 o2
  refine LL.val (R.move rfl rfl) rfl rfl rfl ?_
  refine LL.val (R.extract rfl rfl rfl) rfl rfl rfl ?_
  refine LL.val (R.extract rfl rfl rfl) rfl rfl rfl ?_
  refine LL.val (R.assign rfl rfl) rfl rfl rfl ?_
  refine LL.val (R.assign rfl rfl) rfl rfl rfl ?_
  refine LL.nilS ?_
  refine CC.seq ?_
  refine CC.seq ?_
  refine CC.region ?_
  refine LL.val (R.move rfl rfl) rfl rfl rfl ?_
  refine LL.val (R.move rfl rfl) rfl rfl rfl ?_
  refine LL.callBT (R.call rfl rfl rfl) rfl rfl rfl (psame_any _ _ _ _ _ h1 h2 (by omega) (by omega)) rfl (fun W4 b4 => ?_)
  have y3 := b4.size
  replace q := q.trans (b4.mono q.size)
  replace r4 := r4.up b4
  replace r10 := r10.up b4
  replace h1 := h1.up b4
  clear b4 h2
  have hput : ∀ i : Nat, i < 16 → ∃ y : Nat, (recW n l)[(i + 1) % 16]? = some y ∧ (putsR (recW n l))[i]? = some ((7 : Int) + (((i + 1) % 16 : Nat) : Int), y) := fun i hi => by
    obtain ⟨y, hy⟩ : ∃ y, (recW n l)[(i + 1) % 16]? = some y := ⟨_, List.getElem?_eq_getElem (by omega)⟩
    exact ⟨y, hy, by simp [putsR, turnL, hi, putN, hy]⟩
  obtain ⟨y0, _, hp0⟩ := hput 0 (by omega)
  obtain ⟨bk, off, rfl, hbk, _⟩ := h1.get pEnc hp0
  clear hp0
  refine LL.val (R.not rfl rfl) rfl rfl rfl ?_
  refine LL.val (R.move rfl rfl) rfl rfl rfl ?_
  refine LL.val (R.move rfl rfl) rfl rfl rfl ?_
  refine LL.call (R.call rfl rfl rfl) rfl rfl rfl (num_any _ _) ?_
  rintro e W' ⟨rfl, rfl⟩
  refine ⟨_, rfl, ?_⟩
  refine LL.val (R.move rfl rfl) rfl rfl rfl ?_
  refine LL.val (R.neF rfl rfl rfl (by omega)) rfl rfl rfl ?_
  refine LL.val (R.pick rfl rfl rfl) rfl rfl rfl ?_
  refine LL.nilS ?_
  refine CC.no rfl ?_
  refine CC.skip ?_
  refine EE.thenN ?_
  refine CC.seq ?_
  refine CC.seq ?_
  refine CC.region ?_
  refine LL.val (R.move rfl rfl) rfl rfl rfl ?_
  refine LL.val (R.neF rfl rfl rfl (by omega)) rfl rfl rfl ?_
  refine LL.nilS ?_
  refine CC.no rfl ?_
  refine CC.skip ?_
  refine EE.thenN ?_
  refine CC.seq ?_
  refine CC.region ?_
  refine LL.val (R.load rfl rfl (I.ldNc (vs := [Value.int IntKind.u64 ↑(a 0), Value.int IntKind.u64 ↑(a 1), Value.int IntKind.u64 ↑(a 2), Value.int IntKind.u64 ↑(a 3), Value.int IntKind.u64 ↑(a 4), Value.int IntKind.u64 ↑(a 5), Value.int IntKind.u64 ↑(a 6), Value.int IntKind.u64 ↑(a 7), Value.int IntKind.u64 ↑(a 8), Value.int IntKind.u64 ↑(a 9), Value.int IntKind.u64 ↑(a 10), Value.int IntKind.u64 ↑(a 11), Value.int IntKind.u64 ↑(a 12), Value.int IntKind.u64 ↑(a 13), Value.int IntKind.u64 ↑(a 14), Value.int IntKind.u64 ↑(a 15)]) (RowL.cells r4 rfl) (by rfl) (by rfl))) rfl rfl rfl ?_
  have lc1 := r4.lt
  have lc2 := r10.lt
  refine LL.alloc ([Value.int IntKind.u64 0, Value.int IntKind.u64 0, Value.int IntKind.u64 0, Value.int IntKind.u64 0, Value.int IntKind.u64 0, Value.int IntKind.u64 0, Value.int IntKind.u64 0, Value.int IntKind.u64 0, Value.int IntKind.u64 0, Value.int IntKind.u64 0, Value.int IntKind.u64 0, Value.int IntKind.u64 0, Value.int IntKind.u64 0, Value.int IntKind.u64 0, Value.int IntKind.u64 0, Value.int IntKind.u64 0]) rfl rfl rfl rfl rfl ?_
  intro Wc4 gc5 egc5 rc6 zc7 bc3
  replace q := q.trans (bc3.mono q.size)
  replace r4 := r4.up bc3
  replace r10 := r10.up bc3
  replace h1 := h1.up bc3
  refine LL.storeN (vs := [Value.int IntKind.u64 ↑(a 0), Value.int IntKind.u64 ↑(a 1), Value.int IntKind.u64 ↑(a 2), Value.int IntKind.u64 ↑(a 3), Value.int IntKind.u64 ↑(a 4), Value.int IntKind.u64 ↑(a 5), Value.int IntKind.u64 ↑(a 6), Value.int IntKind.u64 ↑(a 7), Value.int IntKind.u64 ↑(a 8), Value.int IntKind.u64 ↑(a 9), Value.int IntKind.u64 ↑(a 10), Value.int IntKind.u64 ↑(a 11), Value.int IntKind.u64 ↑(a 12), Value.int IntKind.u64 ↑(a 13), Value.int IntKind.u64 ↑(a 14), Value.int IntKind.u64 ↑(a 15)]) rfl rfl rfl rfl rc6 (by exact Nat.le_of_ble_eq_true rfl) (ones_of rfl) rfl rfl ?_
  intro Wc9 rc10 bc8 zc11
  have hlbc8 := rc6.lt
  replace rc10 : RowL Wc9 _ 42 [Value.int IntKind.u64 ↑(a 0), Value.int IntKind.u64 ↑(a 1), Value.int IntKind.u64 ↑(a 2), Value.int IntKind.u64 ↑(a 3), Value.int IntKind.u64 ↑(a 4), Value.int IntKind.u64 ↑(a 5), Value.int IntKind.u64 ↑(a 6), Value.int IntKind.u64 ↑(a 7), Value.int IntKind.u64 ↑(a 8), Value.int IntKind.u64 ↑(a 9), Value.int IntKind.u64 ↑(a 10), Value.int IntKind.u64 ↑(a 11), Value.int IntKind.u64 ↑(a 12), Value.int IntKind.u64 ↑(a 13), Value.int IntKind.u64 ↑(a 14), Value.int IntKind.u64 ↑(a 15)] := rc10
  clear rc6
  replace bc3 := bc3.grown bc8 bc3.size (by rintro k ⟨⟩; omega)
  replace q := q.grown bc8 q.size (by rintro k ⟨⟩; omega)
  replace r4 := r4.gr bc8 (by have := r4.lt; omega)
  replace r10 := r10.gr bc8 (by have := r10.lt; omega)
  replace h1 := h1.gr bc8 (by omega)
  have rc6 := rc10
  clear rc10
  refine LL.nilS ?_
  refine CC.seq ?_
  refine CC.region ?_
  refine LL.val (R.index rfl rfl rfl (I.ixA1c rfl rfl (by first | omega | decide))) rfl rfl rfl ?_
  refine LL.store rfl rfl rfl rfl rc6 (by exact Nat.le_of_ble_eq_true rfl) rfl rfl rfl rfl ?_
  intro Wc13 rc14 bc12 zc15
  have hlbc12 := rc6.lt
  replace rc14 : RowL Wc13 _ 42 [Value.int IntKind.u64 0, Value.int IntKind.u64 ↑(a 1), Value.int IntKind.u64 ↑(a 2), Value.int IntKind.u64 ↑(a 3), Value.int IntKind.u64 ↑(a 4), Value.int IntKind.u64 ↑(a 5), Value.int IntKind.u64 ↑(a 6), Value.int IntKind.u64 ↑(a 7), Value.int IntKind.u64 ↑(a 8), Value.int IntKind.u64 ↑(a 9), Value.int IntKind.u64 ↑(a 10), Value.int IntKind.u64 ↑(a 11), Value.int IntKind.u64 ↑(a 12), Value.int IntKind.u64 ↑(a 13), Value.int IntKind.u64 ↑(a 14), Value.int IntKind.u64 ↑(a 15)] := rc14
  clear rc6
  replace bc3 := bc3.grown bc12 bc3.size (by rintro k ⟨⟩; omega)
  replace q := q.grown bc12 q.size (by rintro k ⟨⟩; omega)
  replace r4 := r4.gr bc12 (by have := r4.lt; omega)
  replace r10 := r10.gr bc12 (by have := r10.lt; omega)
  replace h1 := h1.gr bc12 (by omega)
  have rc6 := rc14
  clear rc14
  refine LL.nilS ?_
  refine CC.seq ?_
  refine CC.seq ?_
  refine CC.region ?_
  refine LL.val (R.assign rfl rfl) rfl rfl rfl ?_
  refine LL.nilS ?_
  refine CC.block ?_
  have z0 := q.size
  have l9 := r10.lt
  have hne9 : g9 ≠ gc5 := by omega
  have hneb : bk ≠ gc5 := by omega
  have hwg : w.heap.size ≤ gc5 := by omega
  refine CC.loop (α := Nat × List Nat) (fun s => [(3, .pointer (some ⟨g9, 0, none⟩)), (5, .slice (some ⟨bk, off, none⟩) 16 cv), (9, .pointer (some ⟨gc5, 0, none⟩)), (10, .int .i64 (s.1 : Int))])
    (fun s W => s.1 ≤ 16 ∧ Below w.heap.size w W ∧ gc5 < W.heap.size ∧ RowL W g9 23 [.int .i64 (n : Int), strV l] ∧ ReadsT pE 2 W (.slice (some ⟨bk, off, none⟩) 16 cv) (putsR (recW n l)) ∧ RowL W gc5 42 (ints .u64 s.2) ∧ csOk (recW n l) s.2 s.1) (fun s => 16 - s.1)
    (0, [0, a 1, a 2, a 3, a 4, a 5, a 6, a 7, a 8, a 9, a 10, a 11, a 12, a 13, a 14, a 15]) ⟨rfl, rfl, rfl, rfl, trivial⟩ ⟨by show 0 ≤ 16; omega, q, by omega, r10, h1, rc6, rfl, fun _ => rfl, fun j h1 h2 => by simp only at h2; omega, fun h => by cases h⟩ ?_
  clear q r10 h1 rc6 r4
  rintro ⟨i, cs⟩ W ⟨hi, q, yg, r10, h1, rc6, hc⟩
  simp only at hi hc rc6
  show CC none Try.prog _ 103 [] (sl [(3, .pointer (some ⟨g9, 0, none⟩)), (5, .slice (some ⟨bk, off, none⟩) 16 cv), (9, .pointer (some ⟨gc5, 0, none⟩)), (10, .int .i64 (i : Int))]) _ W
  have hcl := hc.1
  have hA : ∀ W', RowL W' gc5 42 (ints .u64 cs) → Reads W' (.slice (some ⟨gc5, 0, none⟩) 16 16) (ints .u64 cs) := fun W' h => by
    have := RowL.asInts h .u64 cs rfl hcl
    exact this
  by_cases hlt : i < 16
  case neg =>
    obtain rfl : i = 16 := by omega
    have he := cs_end hc hlr
    refine CC.seq ?_
    refine CC.seq ?_
    refine CC.region ?_
    refine LL.val (R.move rfl rfl) rfl rfl rfl ?_
    refine LL.val (R.move rfl rfl) rfl rfl rfl ?_
    refine LL.val (R.len rfl rfl rfl rfl) rfl rfl rfl ?_
    refine LL.val (R.ltF rfl rfl rfl (by omega)) rfl rfl rfl ?_
    refine LL.nilS ?_
    refine CC.no rfl ?_
    refine CC.exit ?_
    refine EE.thenX ?_
    refine EE.thenX ?_
    refine EE.inX ?_
    refine EE.thenN ?_
    refine CC.seq ?_
    refine CC.region ?_
    refine LL.val (R.slice rfl rfl rfl rfl rfl (I.slA rfl)) rfl rfl rfl ?_
    refine LL.call (R.call rfl rfl rfl) rfl rfl rfl (of_T _ cs n l _ (hA _ rc6) h he) ?_
    rintro e W5 ⟨rfl, b5⟩
    refine ⟨_, rfl, ?_⟩
    have y5 := b5.size
    replace q := q.trans (b5.mono q.size)
    replace r10 := r10.up b5
    clear b5 h1 rc6 hA hc
    refine LL.val (R.move rfl rfl) rfl rfl rfl ?_
    refine LL.val (R.extract rfl rfl rfl) rfl rfl rfl ?_
    refine LL.val (R.extract rfl rfl rfl) rfl rfl rfl ?_
    have le1 := r10.lt
    refine LL.alloc ([Value.int IntKind.i64 0, Value.string { data := { toList := [] } }]) rfl rfl rfl rfl rfl ?_
    intro We3 ge4 ege4 re5 ze6 be2
    replace q := q.trans (be2.mono q.size)
    replace r10 := r10.up be2
    refine LL.storeN (vs := [Value.int IntKind.i64 ↑n, strV l]) rfl rfl rfl rfl re5 (by exact Nat.le_of_ble_eq_true rfl) (ones_of rfl) rfl rfl ?_
    intro We8 re9 be7 ze10
    have hlbe7 := re5.lt
    replace re9 : RowL We8 _ 23 [Value.int IntKind.i64 ↑n, strV l] := re9
    clear re5
    replace be2 := be2.grown be7 be2.size (by rintro k ⟨⟩; omega)
    replace q := q.grown be7 q.size (by rintro k ⟨⟩; omega)
    replace r10 := r10.gr be7 (by have := r10.lt; omega)
    have re5 := re9
    clear re9
    refine LL.val (R.assign rfl rfl) rfl rfl rfl ?_
    refine LL.nilS ?_
    refine CC.seq ?_
    refine CC.region ?_
    refine LL.val (R.move rfl rfl) rfl rfl rfl ?_
    refine LL.call (R.call rfl rfl rfl) rfl rfl rfl (num_any _ _) ?_
    rintro e W' ⟨rfl, rfl⟩
    refine ⟨_, rfl, ?_⟩
    refine LL.val (R.eqT rfl rfl rfl (by omega)) rfl rfl rfl ?_
    refine LL.val (R.move rfl rfl) rfl rfl rfl ?_
    refine LL.val (R.load rfl rfl (I.ldNc (vs := [Value.int IntKind.i64 ↑n, strV l]) (RowL.cells re5 rfl) (by rfl) (by rfl))) rfl rfl rfl ?_
    refine LL.val (R.load rfl rfl (I.ldNc (vs := [Value.int IntKind.i64 ↑n, strV l]) (RowL.cells r10 rfl) (by rfl) (by rfl))) rfl rfl rfl ?_
    refine LL.val (R.eqST (p := (↑n : Int) = ↑n ∧ ({ data := List.toArray l } : ByteArray).toList = ({ data := List.toArray l } : ByteArray).toList) (bs := [decide ((↑n : Int) = ↑n), ({ data := List.toArray l } : ByteArray).toList == ({ data := List.toArray l } : ByteArray).toList]) rfl rfl rfl rfl (by kernel_rfl) (by kernel_rfl) (by simp) (by first | assumption | omega | exact ⟨rfl, rfl⟩ | exact fun h => h ⟨rfl, rfl⟩)) rfl rfl rfl ?_
    refine LL.val (R.pick rfl rfl rfl) rfl rfl rfl ?_
    refine LL.val (R.move rfl rfl) rfl rfl rfl ?_
    refine LL.call (R.call rfl rfl rfl) rfl rfl rfl (works_any _) ?_
    rintro e We12 ⟨rfl, be11⟩
    refine ⟨_, rfl, ?_⟩
    have zbe11 := be11.size
    replace be2 := be2.trans (be11.mono be2.size)
    replace q := q.trans (be11.mono q.size)
    replace r10 := r10.up be11
    replace re5 := re5.up be11
    refine LL.val (R.pick rfl rfl rfl) rfl rfl rfl ?_
    refine LL.val (R.assign rfl rfl) rfl rfl rfl ?_
    refine LL.nilS ?_
    refine CC.ret ?_
    refine EE.ret _ rfl rfl ?_
    exact ⟨rfl, q⟩
  obtain ⟨y, hy, hpy⟩ := hput i hlt
  have hst := cs_step hc hlt hy
  obtain ⟨x, hx, hx16⟩ : ∃ x, (i + 1) % 16 = x ∧ x < 16 := ⟨_, rfl, by omega⟩
  rw [hx] at hpy hst
  obtain ⟨_, _, e1, _, hcs⟩ := h1.get pEnc hpy
  simp only [Option.some.injEq, Addr.mk.injEq, and_true] at e1
  obtain ⟨rfl, rfl⟩ := e1
  have c1 := hcs.at (j := 0) rfl
  have c2 := hcs.at (j := 1) rfl
  have hw0 : wd0 cs = 0 := by unfold wd0; rw [hc.2.1 hlt]; rfl
  have l9' := r10.lt
  clear hcs
  refine CC.seq ?_
  refine CC.seq ?_
  refine CC.region ?_
  refine LL.val (R.move rfl rfl) rfl rfl rfl ?_
  refine LL.val (R.move rfl rfl) rfl rfl rfl ?_
  refine LL.val (R.len rfl rfl rfl rfl) rfl rfl rfl ?_
  refine LL.val (R.ltT rfl rfl rfl (by omega)) rfl rfl rfl ?_
  refine LL.nilS ?_
  refine CC.yes rfl ?_
  refine CC.skip ?_
  refine EE.thenN ?_
  refine CC.seq ?_
  refine CC.block ?_
  refine CC.seq ?_
  refine CC.seq ?_
  refine CC.region ?_
  refine LL.val (R.slice rfl rfl rfl rfl rfl (I.slA rfl)) rfl rfl rfl ?_
  refine LL.call (R.call rfl rfl rfl) rfl rfl rfl (of_F1 _ cs _ 0 (hA _ rc6) hcl hw0 (by decide) rfl) ?_
  rintro e W5 ⟨rfl, b5⟩
  refine ⟨_, rfl, ?_⟩
  have y5 := b5.size
  replace q := q.trans (b5.mono q.size)
  replace r10 := r10.up b5
  replace rc6 := rc6.up b5
  replace h1 := h1.up b5
  replace c1 := cell_up c1 b5
  replace c2 := cell_up c2 b5
  have l9'' := r10.lt
  clear b5 hx
  refine LL.val (R.move rfl rfl) rfl rfl rfl ?_
  refine LL.val (R.extract rfl rfl rfl) rfl rfl rfl ?_
  refine LL.val (R.extract rfl rfl rfl) rfl rfl rfl ?_
  have lg1 := r10.lt
  have lg2 := rc6.lt
  refine LL.alloc ([Value.int IntKind.i64 0, Value.string { data := { toList := [] } }]) rfl rfl rfl rfl rfl ?_
  intro Wg4 gg5 egg5 rg6 zg7 bg3
  replace q := q.trans (bg3.mono q.size)
  replace r10 := r10.up bg3
  replace rc6 := rc6.up bg3
  replace h1 := h1.up bg3
  replace c1 := cell_up c1 bg3
  replace c2 := cell_up c2 bg3
  refine LL.storeN (vs := [Value.int IntKind.i64 0, strV []]) rfl rfl rfl rfl rg6 (by exact Nat.le_of_ble_eq_true rfl) (ones_of rfl) rfl rfl ?_
  intro Wg9 rg10 bg8 zg11
  have hlbg8 := rg6.lt
  replace rg10 : RowL Wg9 _ 23 [Value.int IntKind.i64 0, strV []] := rg10
  clear rg6
  replace bg3 := bg3.grown bg8 bg3.size (by rintro k ⟨⟩; omega)
  replace q := q.grown bg8 q.size (by rintro k ⟨⟩; omega)
  replace r10 := r10.gr bg8 (by have := r10.lt; omega)
  replace rc6 := rc6.gr bg8 (by have := rc6.lt; omega)
  replace h1 := h1.gr bg8 (by omega)
  replace c1 := cell_gr c1 bg8 (by omega)
  replace c2 := cell_gr c2 bg8 (by omega)
  have rg6 := rg10
  clear rg10
  refine LL.val (R.assign rfl rfl) rfl rfl rfl ?_
  refine LL.nilS ?_
  refine CC.seq ?_
  refine CC.region ?_
  refine LL.val (R.move rfl rfl) rfl rfl rfl ?_
  refine LL.call (R.call rfl rfl rfl) rfl rfl rfl (num_any _ _) ?_
  rintro e W' ⟨rfl, rfl⟩
  refine ⟨_, rfl, ?_⟩
  refine LL.val (R.neF rfl rfl rfl (by omega)) rfl rfl rfl ?_
  refine LL.val (R.move rfl rfl) rfl rfl rfl ?_
  refine LL.val (R.move rfl rfl) rfl rfl rfl ?_
  refine LL.val (R.move rfl rfl) rfl rfl rfl ?_
  refine LL.val (R.index rfl rfl rfl (I.ixS rfl (by omega))) rfl rfl rfl ?_
  refine LL.val (R.field rfl rfl (I.fld rfl)) rfl rfl rfl ?_
  refine LL.val (R.load rfl rfl (I.ld1 rfl (by assumption))) rfl rfl rfl ?_
  refine LL.val (R.ltF rfl rfl rfl (by omega)) rfl rfl rfl ?_
  refine LL.val (R.pick rfl rfl rfl) rfl rfl rfl ?_
  refine LL.val (R.move rfl rfl) rfl rfl rfl ?_
  refine LL.val (R.move rfl rfl) rfl rfl rfl ?_
  refine LL.val (R.move rfl rfl) rfl rfl rfl ?_
  refine LL.val (R.index rfl rfl rfl (I.ixS rfl (by omega))) rfl rfl rfl ?_
  refine LL.val (R.field rfl rfl (I.fld rfl)) rfl rfl rfl ?_
  refine LL.val (R.load rfl rfl (I.ld1 rfl (by assumption))) rfl rfl rfl ?_
  refine LL.val (R.gtF rfl rfl rfl (by omega)) rfl rfl rfl ?_
  refine LL.val (R.pick rfl rfl rfl) rfl rfl rfl ?_
  refine LL.nilS ?_
  refine CC.no rfl ?_
  refine CC.skip ?_
  refine EE.thenN ?_
  refine CC.tailB 12 (by kernel_rfl) (by kernel_rfl) (fun Wg13 bg12 zg14 => ?_)
  replace bg3 := bg3.trans (bg12.mono bg3.size)
  replace q := q.trans (bg12.mono q.size)
  replace r10 := r10.up bg12
  replace rc6 := rc6.up bg12
  replace h1 := h1.up bg12
  replace c1 := cell_up c1 bg12
  replace c2 := cell_up c2 bg12
  replace rg6 := rg6.up bg12
  refine SS.val (R.move rfl rfl) rfl rfl ?_
  refine SS.val (R.move rfl rfl) rfl rfl ?_
  refine SS.val (R.index rfl rfl rfl (I.ixS rfl (by omega))) rfl rfl ?_
  refine SS.val (R.field rfl rfl (I.fld rfl)) rfl rfl ?_
  refine SS.val (R.load rfl rfl (I.ld1 rfl (by assumption))) rfl rfl ?_
  refine SS.val (R.subIz (z := (x : Int)) rfl rfl rfl (by omega) (by omega)) rfl rfl ?_
  refine SS.val (R.move rfl rfl) rfl rfl ?_
  refine SS.val (R.move rfl rfl) rfl rfl ?_
  refine SS.val (R.index rfl rfl rfl (I.ixS rfl (by omega))) rfl rfl ?_
  refine SS.val (R.field rfl rfl (I.fld rfl)) rfl rfl ?_
  refine SS.val (R.load rfl rfl (I.ld1 rfl (by assumption))) rfl rfl ?_
  refine SS.val (R.index rfl rfl rfl (I.ixA1 rfl (by omega))) rfl rfl ?_
  refine SS.nil ?_
  refine LL.store rfl rfl rfl rfl rc6 (by rw [List.length_map]; omega) rfl rfl rfl rfl ?_
  intro W7 r7 g7 z7
  have rc7 : RowL W7 gc5 42 (ints .u64 (cs.set x y)) := by
    have e : (ints .u64 cs).set (0 + x) (.int .u64 (y : Int)) = ints .u64 (cs.set x y) := by simp [ints, List.map_set]
    rw [← e]
    exact r7
  replace q := q.grown g7 q.size (by rintro k ⟨⟩; exact hwg)
  replace r10 := r10.gr g7 hne9
  replace h1 := h1.gr g7 hneb
  clear g7 r7 rc6
  refine LL.nil ?_
  refine EE.inN ?_
  refine EE.thenN ?_
  refine CC.region ?_
  refine LL.val (R.move rfl rfl) rfl rfl rfl ?_
  refine LL.val (R.addNc rfl rfl rfl rfl (by omega)) rfl rfl rfl ?_
  refine LL.val (R.assign rfl rfl) rfl rfl rfl ?_
  refine LL.nil ?_
  exact EE.round (i + 1, cs.set x y) ⟨rfl, rfl, rfl, rfl, trivial⟩ ⟨by show i + 1 ≤ 16; omega, q, by omega, r10, h1, rc7, hst⟩ (by show 16 - (i + 1) < 16 - i; omega)
theorem storesr_walk (a : Nat → Nat) (n : Int) (l : Bs) (w : World) (hl : l.length ≤ 9223372036854775807) : Calls Try.prog 5 #[sixV a, recV n l] w fun x w' => x = .returned (.bool true) ∧ Below w.heap.size w w' := by
  by_cases h : 300 < l.length
  · exact stores_big a n l w hl h
  by_cases ho : okR n l
  case neg => exact stores_bad a n l w (by omega) ho
  obtain ⟨n, rfl⟩ := Int.eq_ofNat_of_zero_le (show 0 ≤ n by omega)
  exact stores_good a n l w (by omega) ho
theorem stores_shell (g : Nat → Int) (hg : ∀ j, j < 16 → (Lit.int .u64 (g j)).wf = true) (n : Int) (s : ByteArray) (w : World) (hs : s.size ≤ maxLen) : Calls Try.prog 5 #[.agg ((List.range 16).map fun j => Value.int .u64 (g j)).toArray, .agg #[.int .i64 n, .string s]] w fun x w' => x = .returned (.bool true) ∧ Below w.heap.size w w' := by
  obtain ⟨l, rfl⟩ : ∃ l : Bs, s = ⟨l.toArray⟩ := ⟨s.data.toList, bs_data s⟩
  have e : (List.range 16).map (fun j => Value.int .u64 (g j)) = (List.range 16).map fun j => Value.int .u64 (((g j).toNat : Nat) : Int) := by
    refine List.map_congr_left fun j hj => ?_
    have := wf_u64 (hg j (by simpa using hj))
    rw [Int.toNat_of_nonneg (by omega)]
  rw [e]
  exact storesr_walk (fun j => (g j).toNat) n l w (by simpa [ByteArray.size, maxLen] using hs)
end Go.Proofs.Ytefepklacchghaa
