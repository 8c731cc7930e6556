/- names: dots, faults, Check. -/
import Derived.Test.YtefepklacchghaaPcs
import Derived.Test.YtefepklacchghaaKept
namespace Go.Proofs.Ytefepklacchghaa
set_option linter.unusedVariables false
set_option linter.unusedSimpArgs false
open Go.RowKit Go.Shelf

def dotsB (l : Bs) : Bool := decide (l = [46]) || decide (l = [46, 46])
theorem dots_any (l : Bs) (w : World) : Calls Try.prog 45 #[strV l] w fun e w' => e = .returned (.bool (dotsB l)) ∧ w = w' := by
  refine X.fn Try.func45 rfl (n := 9) rfl rfl ?_
  (refine CC.seq ?_; refine CC.region ?_; refine LL.val (R.assign rfl rfl) rfl rfl rfl ?_; refine LL.nilS ?_; refine CC.seq ?_; refine CC.region ?_; refine LL.val (R.move rfl rfl) rfl rfl rfl ?_)
  unfold dotsB
  by_cases h1 : l = [46]
  · refine LL.val (R.eqS (c := true) rfl rfl rfl (by simp [h1])) rfl rfl rfl ?_
    (refine LL.val (R.move rfl rfl) rfl rfl rfl ?_; refine LL.skip rfl rfl ?_; refine LL.skip rfl rfl ?_; refine LL.val (R.pick rfl rfl rfl) rfl rfl rfl ?_; refine LL.val (R.assign rfl rfl) rfl rfl rfl ?_; refine LL.nilS ?_; refine CC.ret ?_)
    refine EE.ret _ rfl rfl ?_
    exact ⟨by simp [h1, resV], rfl⟩
  · refine LL.val (R.eqS (c := false) rfl rfl rfl (by simp [h1])) rfl rfl rfl ?_
    (refine LL.val (R.move rfl rfl) rfl rfl rfl ?_; refine LL.val (R.move rfl rfl) rfl rfl rfl ?_)
    refine LL.val (R.eqS (c := decide (l = [46, 46])) rfl rfl rfl rfl) rfl rfl rfl ?_
    (refine LL.val (R.pick rfl rfl rfl) rfl rfl rfl ?_; refine LL.val (R.assign rfl rfl) rfl rfl rfl ?_; refine LL.nilS ?_; refine CC.ret ?_)
    refine EE.ret _ rfl rfl ?_
    exact ⟨by simp [h1, resV], rfl⟩
/-- The faults of a name, in order. -/
def fltB (l : Bs) : Nat → Bool
  | 0 => decide (l = []) || dotsB l
  | 1 => decide (0 ∈ l)
  | 2 => decide (47 ∈ l)
  | _ => decide (120 < l.length)
def fltN : Nat → Nat
  | 0 => 140
  | 1 => 140
  | 2 => 140
  | _ => 141
def fltF : Nat → Nat
  | 0 => 44
  | 1 => 46
  | 2 => 48
  | _ => 50
/-- Which error a name has. -/
def nameN (l : Bs) : Nat := if fltB l 0 then 140 else if fltB l 1 then 140 else if fltB l 2 then 140 else if fltB l 3 then 141 else 0
theorem idx_mem (l : Bs) (c : UInt8) : (0 ≤ Lib.indexByte l c ↔ c ∈ l) := by
  have hge := Lib.indexByte_ge l c
  constructor
  · intro h
    obtain ⟨i, hi⟩ : ∃ i : Nat, Lib.indexByte l c = i := ⟨(Lib.indexByte l c).toNat, by omega⟩
    exact List.mem_of_getElem? (Lib.indexByte_some hi).1
  · intro h
    obtain ⟨k, hk⟩ := List.mem_iff_getElem?.1 h
    rcases Int.lt_or_le (Lib.indexByte l c) 0 with h0 | h0
    · exact absurd hk (Lib.indexByte_none (by omega) k)
    · exact h0
theorem idx_any (l : Bs) (w : World) : Calls Try.prog 47 #[strV l, .int .u8 0] w fun e w' => e = .returned (.int .i64 (Lib.indexByte l 0)) ∧ w = w' :=
  (Try.strings_IndexByte ⟨l.toArray⟩ 0 w).mono fun e w' ⟨he, hw⟩ => ⟨by rw [he]; rfl, hw.symm⟩
theorem flt_any (l : Bs) (hl : l.length ≤ 9223372036854775807) (w : World) : ∀ i, i < 4 → Calls Try.prog (fltF i) #[strV l] w fun e w' => e = .returned (.bool (fltB l i)) ∧ w = w'
  | 0, _ => by
    show Calls Try.prog 44 _ _ _
    refine X.fn Try.func44 rfl (n := 9) rfl rfl ?_
    (refine CC.seq ?_; refine CC.region ?_; refine LL.val (R.assign rfl rfl) rfl rfl rfl ?_; refine LL.nilS ?_; refine CC.seq ?_; refine CC.region ?_; refine LL.val (R.move rfl rfl) rfl rfl rfl ?_)
    by_cases h1 : l = []
    · refine LL.val (R.eqS (b := []) (c := true) rfl rfl rfl (by simp [h1])) rfl rfl rfl ?_
      (refine LL.val (R.move rfl rfl) rfl rfl rfl ?_; refine LL.skip rfl rfl ?_; refine LL.skip rfl rfl ?_; refine LL.val (R.pick rfl rfl rfl) rfl rfl rfl ?_; refine LL.val (R.assign rfl rfl) rfl rfl rfl ?_; refine LL.nilS ?_; refine CC.ret ?_)
      refine EE.ret _ rfl rfl ?_
      exact ⟨by simp [fltB, h1, resV], rfl⟩
    · refine LL.val (R.eqS (b := []) (c := false) rfl rfl rfl (by simp [h1])) rfl rfl rfl ?_
      (refine LL.val (R.move rfl rfl) rfl rfl rfl ?_; refine LL.val (R.move rfl rfl) rfl rfl rfl ?_)
      refine LL.call (R.call rfl rfl rfl) rfl rfl rfl (dots_any l _) ?_
      rintro e W ⟨rfl, rfl⟩
      refine ⟨_, rfl, ?_⟩
      (refine LL.val (R.pick rfl rfl rfl) rfl rfl rfl ?_; refine LL.val (R.assign rfl rfl) rfl rfl rfl ?_; refine LL.nilS ?_; refine CC.ret ?_)
      refine EE.ret _ rfl rfl ?_
      exact ⟨by simp [fltB, h1, resV], rfl⟩
  | 1, _ => by
    show Calls Try.prog 46 _ _ _
    refine X.fn Try.func46 rfl (n := 6) rfl rfl ?_
    (refine CC.seq ?_; refine CC.region ?_; refine LL.val (R.assign rfl rfl) rfl rfl rfl ?_; refine LL.nilS ?_; refine CC.seq ?_; refine CC.region ?_; refine LL.val (R.move rfl rfl) rfl rfl rfl ?_)
    refine LL.call (R.call rfl rfl rfl) rfl rfl rfl (idx_any l _) ?_
    rintro e W ⟨rfl, rfl⟩
    refine ⟨_, rfl, ?_⟩
    have hm := idx_mem l 0
    by_cases h1 : (0 : UInt8) ∈ l
    · have h2 := hm.2 h1
      (refine LL.val (R.geT rfl rfl rfl (by omega)) rfl rfl rfl ?_; refine LL.val (R.assign rfl rfl) rfl rfl rfl ?_; refine LL.nilS ?_; refine CC.ret ?_)
      refine EE.ret _ rfl rfl ?_
      exact ⟨by simp [fltB, h1, resV], rfl⟩
    · have h2 : ¬ 0 ≤ Lib.indexByte l 0 := fun h => h1 (hm.1 h)
      (refine LL.val (R.geF rfl rfl rfl (by omega)) rfl rfl rfl ?_; refine LL.val (R.assign rfl rfl) rfl rfl rfl ?_; refine LL.nilS ?_; refine CC.ret ?_)
      refine EE.ret _ rfl rfl ?_
      exact ⟨by simp [fltB, h1, resV], rfl⟩
  | 2, _ => by
    show Calls Try.prog 48 _ _ _
    refine X.fn Try.func48 rfl (n := 5) rfl rfl ?_
    (refine CC.seq ?_; refine CC.region ?_; refine LL.val (R.assign rfl rfl) rfl rfl rfl ?_; refine LL.nilS ?_; refine CC.seq ?_; refine CC.region ?_; refine LL.val (R.move rfl rfl) rfl rfl rfl ?_)
    refine LL.call (R.call rfl rfl rfl) rfl rfl rfl (Try.strings_Contains_one ⟨l.toArray⟩ 47 _) ?_
    rintro e W ⟨rfl, rfl⟩
    refine ⟨_, rfl, ?_⟩
    (refine LL.val (R.assign rfl rfl) rfl rfl rfl ?_; refine LL.nilS ?_; refine CC.ret ?_)
    refine EE.ret _ rfl rfl ?_
    refine ⟨?_, rfl⟩
    show Ending.returned (.bool (decide (0 ≤ Lib.indexByte l 47))) = .returned (.bool (decide (47 ∈ l)))
    rw [decide_eq_decide.2 (idx_mem l 47)]
  | 3, _ => by
    show Calls Try.prog 50 _ _ _
    refine X.fn Try.func50 rfl (n := 6) rfl rfl ?_
    by_cases h1 : 120 < l.length
    · (refine CC.seq ?_; refine CC.region ?_; refine LL.val (R.assign rfl rfl) rfl rfl rfl ?_; refine LL.nilS ?_; refine CC.seq ?_; refine CC.region ?_; refine LL.val (R.move rfl rfl) rfl rfl rfl ?_; refine LL.val (R.lenS rfl rfl rfl rfl) rfl rfl rfl ?_; refine LL.val (R.gtT rfl rfl rfl (by omega)) rfl rfl rfl ?_; refine LL.val (R.assign rfl rfl) rfl rfl rfl ?_; refine LL.nilS ?_; refine CC.ret ?_)
      refine EE.ret _ rfl rfl ?_
      exact ⟨by simp [fltB, h1, resV], rfl⟩
    · (refine CC.seq ?_; refine CC.region ?_; refine LL.val (R.assign rfl rfl) rfl rfl rfl ?_; refine LL.nilS ?_; refine CC.seq ?_; refine CC.region ?_; refine LL.val (R.move rfl rfl) rfl rfl rfl ?_; refine LL.val (R.lenS rfl rfl rfl rfl) rfl rfl rfl ?_; refine LL.val (R.gtF rfl rfl rfl (by omega)) rfl rfl rfl ?_; refine LL.val (R.assign rfl rfl) rfl rfl rfl ?_; refine LL.nilS ?_; refine CC.ret ?_)
      refine EE.ret _ rfl rfl ?_
      exact ⟨by simp [fltB, h1, resV], rfl⟩
  | n + 4, h => absurd h (by omega)
/-- A fault's closure. -/
structure FltAt (w : World) (bi be i : Nat) : Prop where
  is : RowL w bi 76 [.func (.func (fltF i)) #[] #[]]
  er : RowL w be 26 [.int .i64 (fltN i : Int)]
theorem FltAt.up {w w' : World} {bi be i : Nat} (h : FltAt w bi be i) (hb : Below w.heap.size w w') : FltAt w' bi be i := ⟨h.is.up hb, h.er.up hb⟩
abbrev fltV (bi be : Nat) : Value := .func (.func 43) #[] [Value.pointer (some ⟨bi, 0, none⟩), .pointer (some ⟨be, 0, none⟩)].toArray
theorem flt1_any (i : Nat) (w : World) : Calls Try.prog 42 #[.int .i64 (fltN i : Int), .func (.func (fltF i)) #[] #[]] w fun e w' => ∃ bi be, e = .returned (fltV bi be) ∧ FltAt w' bi be i ∧ Below w.heap.size w w' := by
  have q := Below.refl w.heap.size w
  refine X.fn Try.func42 rfl (n := 6) rfl rfl ?_
  (refine CC.seq ?_; refine CC.region ?_)
  refine LL.box [.int .i64 (fltN i : Int)] rfl rfl rfl rfl rfl ?_
  intro W g2 eg r2 zg b
  have hsz_ := b.size
  replace q := q.trans (b.mono q.size)
  skip
  refine LL.box [.func (.func (fltF i)) #[] #[]] rfl rfl rfl rfl rfl ?_
  intro W g3 eg r3 zg b
  have hsz_ := b.size
  replace q := q.trans (b.mono q.size)
  replace r2 := r2.up b
  (refine LL.val (R.assign rfl rfl) rfl rfl rfl ?_; refine LL.nilS ?_; refine CC.seq ?_; refine CC.region ?_; refine LL.val (R.func rfl rfl rfl) rfl rfl rfl ?_; refine LL.val (R.assign rfl rfl) rfl rfl rfl ?_; refine LL.nilS ?_; refine CC.ret ?_)
  refine EE.ret _ rfl rfl ?_
  exact ⟨g3, g2, rfl, ⟨r3, r2⟩, q⟩
theorem fltE_of : ∀ i, i < 4 → entB Try.prog (fltF i) = true
  | 0, _ => rfl
  | 1, _ => rfl
  | 2, _ => rfl
  | 3, _ => rfl
  | n + 4, h => absurd h (by omega)
theorem flt11_any (i bi be : Nat) (l : Bs) (hl : l.length ≤ 9223372036854775807) (w : World) (hi : i < 4) (h : FltAt w bi be i) : Calls Try.prog 43 #[strV l, .pointer (some ⟨bi, 0, none⟩), .pointer (some ⟨be, 0, none⟩)] w fun e w' => e = .returned (.int .i64 ((if fltB l i then fltN i else 0 : Nat) : Int)) ∧ w = w' := by
  have c1 := h.is.cell (j := 0) rfl
  have c2 := h.er.cell (j := 0) rfl
  refine X.fn Try.func43 rfl (n := 9) rfl rfl ?_
  (refine CC.seq ?_; refine CC.region ?_; refine LL.val (R.assign rfl rfl) rfl rfl rfl ?_; refine LL.nilS ?_; refine CC.seq ?_; refine CC.seq ?_; refine CC.region ?_; refine LL.val (R.load rfl rfl (I.ld1 rfl (by assumption))) rfl rfl rfl ?_; refine LL.val (R.move rfl rfl) rfl rfl rfl ?_)
  refine LL.call (R.callV rfl rfl rfl (fltE_of i hi)) rfl rfl rfl (flt_any l hl w i hi) ?_
  rintro e w1 ⟨rfl, rfl⟩
  refine ⟨_, rfl, ?_⟩
  cases hB : fltB l i with
  | true =>
    (refine LL.nilS ?_; refine CC.yes rfl ?_; refine CC.seq ?_; refine CC.region ?_; refine LL.val (R.load rfl rfl (I.ld1 rfl (by assumption))) rfl rfl rfl ?_; refine LL.val (R.assign rfl rfl) rfl rfl rfl ?_; refine LL.nilS ?_; refine CC.ret ?_; refine EE.thenR ?_)
    refine EE.ret _ rfl rfl ?_
    exact ⟨rfl, rfl⟩
  | false =>
    (refine LL.nilS ?_; refine CC.no rfl ?_; refine CC.skip ?_; refine EE.thenN ?_; refine CC.seq ?_; refine CC.region ?_; refine LL.val (R.assign rfl rfl) rfl rfl rfl ?_; refine LL.nilS ?_; refine CC.ret ?_)
    refine EE.ret _ rfl rfl ?_
    exact ⟨rfl, rfl⟩
set_option maxRecDepth 100000 in
theorem faults_any (w : World) : Calls Try.prog 31 #[] w fun e w' => ∃ g, ∃ bi be : Nat → Nat, e = .returned (.slice (some ⟨g, 0, none⟩) 4 4) ∧ RowL w' g 59 [fltV (bi 0) (be 0), fltV (bi 1) (be 1), fltV (bi 2) (be 2), fltV (bi 3) (be 3)] ∧ (∀ i, i < 4 → FltAt w' (bi i) (be i) i) ∧ Below w.heap.size w w' := by
  have q := Below.refl w.heap.size w
  refine X.fn Try.func31 rfl (n := 11) rfl rfl ?_
  (refine CC.seq ?_; refine CC.region ?_; refine LL.val (R.assign rfl rfl) rfl rfl rfl ?_; refine LL.nilS ?_; refine CC.seq ?_; refine CC.region ?_; refine LL.val (R.assign rfl rfl) rfl rfl rfl ?_; refine LL.nilS ?_; refine CC.seq ?_; refine CC.region ?_; refine LL.val (R.move rfl rfl) rfl rfl rfl ?_)
  refine LL.call (R.callV rfl rfl rfl rfl) rfl rfl rfl (flt1_any 0 _) ?_
  rintro e W ⟨i0, e0, rfl, h0, b⟩
  refine ⟨_, rfl, ?_⟩
  have hsz_ := b.size
  replace q := q.trans (b.mono q.size)
  (refine LL.val (R.move rfl rfl) rfl rfl rfl ?_)
  refine LL.call (R.callV rfl rfl rfl rfl) rfl rfl rfl (flt1_any 1 _) ?_
  rintro e W ⟨i1, e1, rfl, h1, b⟩
  refine ⟨_, rfl, ?_⟩
  have hsz_ := b.size
  replace q := q.trans (b.mono q.size)
  replace h0 := h0.up b
  (refine LL.val (R.move rfl rfl) rfl rfl rfl ?_)
  refine LL.call (R.callV rfl rfl rfl rfl) rfl rfl rfl (flt1_any 2 _) ?_
  rintro e W ⟨i2, e2, rfl, h2, b⟩
  refine ⟨_, rfl, ?_⟩
  have hsz_ := b.size
  replace q := q.trans (b.mono q.size)
  replace h0 := h0.up b
  replace h1 := h1.up b
  (refine LL.val (R.move rfl rfl) rfl rfl rfl ?_)
  refine LL.call (R.callV rfl rfl rfl rfl) rfl rfl rfl (flt1_any 3 _) ?_
  rintro e W ⟨i3, e3, rfl, h3, b⟩
  refine ⟨_, rfl, ?_⟩
  have hsz_ := b.size
  replace q := q.trans (b.mono q.size)
  replace h0 := h0.up b
  replace h1 := h1.up b
  replace h2 := h2.up b
  refine LL.lit (e := 59) [fltV i0 e0, fltV i1 e1, fltV i2 e2, fltV i3 e3] 4 rfl rfl (fun _ => by kernel_rfl) rfl rfl ?_
  intro W g eg r zg b
  have hsz_ := b.size
  replace q := q.trans (b.mono q.size)
  replace h0 := h0.up b
  replace h1 := h1.up b
  replace h2 := h2.up b
  replace h3 := h3.up b
  (refine LL.val (R.assign rfl rfl) rfl rfl rfl ?_; refine LL.nilS ?_; refine CC.ret ?_)
  refine EE.ret _ rfl rfl ?_
  refine ⟨g, fun i => match i with | 0 => i0 | 1 => i1 | 2 => i2 | _ => i3, fun i => match i with | 0 => e0 | 1 => e1 | 2 => e2 | _ => e3, rfl, r, fun i hi => ?_, q⟩
  match i, hi with
  | 0, _ => exact h0
  | 1, _ => exact h1
  | 2, _ => exact h2
  | 3, _ => exact h3
/-- None of the first faults. -/
def noFlt (l : Bs) (i : Nat) : Prop := ∀ j, j < i → fltB l j = false
theorem nameN_at {l : Bs} {i : Nat} (h : noFlt l i) (hi : i < 4) (hf : fltB l i = true) : nameN l = fltN i := by
  unfold nameN
  match i, hi with
  | 0, _ => rw [hf]; rfl
  | 1, _ => rw [h 0 (by omega), hf]; rfl
  | 2, _ => rw [h 0 (by omega), h 1 (by omega), hf]; rfl
  | 3, _ => rw [h 0 (by omega), h 1 (by omega), h 2 (by omega), hf]; rfl
theorem nameN_no {l : Bs} (h : noFlt l 4) : nameN l = 0 := by
  unfold nameN
  rw [h 0 (by omega), h 1 (by omega), h 2 (by omega), h 3 (by omega)]
  rfl
theorem fltN_pos (i : Nat) : fltN i ≠ 0 := by
  match i with
  | 0 => decide
  | 1 => decide
  | 2 => decide
  | n + 3 => show (141 : Nat) ≠ 0; decide
set_option maxRecDepth 100000 in
set_option maxHeartbeats 1000000 in
theorem check_any (l : Bs) (hl : l.length ≤ 9223372036854775807) (w : World) : Calls Try.prog 23 #[strV l] w fun e w' => e = .returned (.int .i64 (nameN l : Int)) ∧ Below w.heap.size w w' := by
  have q := Below.refl w.heap.size w
  refine X.fn Try.func23 rfl (n := 19) rfl rfl ?_
  (refine CC.seq ?_; refine CC.region ?_; refine LL.val (R.assign rfl rfl) rfl rfl rfl ?_; refine LL.nilS ?_; refine CC.seq ?_; refine CC.seq ?_; refine CC.region ?_)
  refine LL.call (R.call rfl rfl rfl) rfl rfl rfl (faults_any _) ?_
  rintro e W ⟨g, bi, be, rfl, r, hF, b⟩
  refine ⟨_, rfl, ?_⟩
  have hsz_ := b.size
  replace q := q.trans (b.mono q.size)
  (refine LL.val (R.len rfl rfl rfl rfl) rfl rfl rfl ?_; refine LL.val (R.move rfl rfl) rfl rfl rfl ?_; refine LL.nilS ?_; refine CC.block ?_)
  obtain ⟨WA, rfl⟩ : ∃ X, X = W := ⟨_, rfl⟩
  refine CC.loop (α := Nat) (fun i => [(0, strV l), (6, .slice (some ⟨g, 0, none⟩) 4 4), (7, .int .i64 ((4 : Nat) : Int)), (8, .int .i64 (i : Int))]) (fun i W => i ≤ 4 ∧ WA = W ∧ noFlt l i) (fun i => 4 - i) 0 ⟨rfl, rfl, rfl, rfl, trivial⟩ ⟨by omega, rfl, fun j h => by omega⟩ ?_
  rintro i W ⟨hi, rfl, hno⟩
  by_cases hlt : i < 4
  · have hc : WA.cell? ⟨g, 0 + i, none⟩ = some (fltV (bi i) (be i)) := by
      rw [Nat.zero_add]
      match i, hlt with
      | 0, _ => exact r.cell rfl
      | 1, _ => exact r.cell rfl
      | 2, _ => exact r.cell rfl
      | 3, _ => exact r.cell rfl
    (refine CC.seq ?_; refine CC.region ?_; refine LL.val (R.ltT rfl rfl rfl (by omega)) rfl rfl rfl ?_; refine LL.nilS ?_; refine CC.seq ?_; refine CC.yes rfl ?_; refine CC.skip ?_; refine EE.thenN ?_; refine CC.seq ?_; refine CC.block ?_; refine CC.seq ?_; refine CC.region ?_; refine LL.val (R.index rfl rfl rfl (I.ixS1 rfl (by omega))) rfl rfl rfl ?_; refine LL.val (R.load rfl rfl (I.ld1 rfl (by assumption))) rfl rfl rfl ?_; refine LL.val (R.assign rfl rfl) rfl rfl rfl ?_; refine LL.nilS ?_; refine CC.seq ?_; refine CC.region ?_; refine LL.val (R.move rfl rfl) rfl rfl rfl ?_; refine LL.val (R.move rfl rfl) rfl rfl rfl ?_)
    refine LL.call (R.callV rfl rfl rfl rfl) rfl rfl rfl (flt11_any i (bi i) (be i) l hl WA hlt (hF i hlt)) ?_
    rintro e w1 ⟨rfl, rfl⟩
    refine ⟨_, rfl, ?_⟩
    cases hB : fltB l i with
    | true =>
      have hp := fltN_pos i
      rw [if_pos rfl, nameN_at hno hlt hB]
      (refine LL.val (R.assign rfl rfl) rfl rfl rfl ?_; refine LL.nilS ?_; refine CC.seq ?_; refine CC.region ?_; refine LL.val (R.move rfl rfl) rfl rfl rfl ?_; refine LL.val (R.neT rfl rfl rfl (by omega)) rfl rfl rfl ?_; refine LL.nilS ?_; refine CC.yes rfl ?_; refine CC.seq ?_; refine CC.region ?_; refine LL.val (R.move rfl rfl) rfl rfl rfl ?_; refine LL.val (R.assign rfl rfl) rfl rfl rfl ?_; refine LL.nilS ?_; refine CC.ret ?_; refine EE.inR ?_; refine EE.thenR ?_; refine EE.thenR ?_; refine EE.inR ?_; refine EE.thenR ?_)
      refine EE.ret _ rfl rfl ?_
      exact ⟨rfl, q⟩
    | false =>
      rw [if_neg (by simp)]
      (refine LL.val (R.assign rfl rfl) rfl rfl rfl ?_; refine LL.nilS ?_; refine CC.seq ?_; refine CC.region ?_; refine LL.val (R.move rfl rfl) rfl rfl rfl ?_; refine LL.val (R.neF rfl rfl rfl (by omega)) rfl rfl rfl ?_; refine LL.nilS ?_; refine CC.no rfl ?_; refine CC.skip ?_; refine EE.inN ?_; refine EE.thenN ?_; refine CC.region ?_; refine LL.val (R.addNc rfl rfl rfl rfl (by omega)) rfl rfl rfl ?_; refine LL.val (R.move rfl rfl) rfl rfl rfl ?_; refine LL.nil ?_)
      exact EE.round (i + 1) ⟨rfl, rfl, rfl, rfl, trivial⟩ ⟨by omega, rfl, fun j hj => by
        rcases Nat.lt_succ_iff_lt_or_eq.1 hj with h | h
        · exact hno j h
        · rw [h]; exact hB⟩ (by omega)
  · obtain rfl : i = 4 := by omega
    rw [nameN_no hno]
    (refine CC.seq ?_; refine CC.region ?_; refine LL.val (R.ltF rfl rfl rfl (by omega)) rfl rfl rfl ?_; refine LL.nilS ?_; refine CC.seq ?_; refine CC.no rfl ?_; refine CC.exit ?_; refine EE.thenX ?_; refine EE.thenX ?_; refine EE.inX ?_; refine EE.thenN ?_; refine CC.seq ?_; refine CC.region ?_; refine LL.val (R.assign rfl rfl) rfl rfl rfl ?_; refine LL.nilS ?_; refine CC.ret ?_)
    refine EE.ret _ rfl rfl ?_
    exact ⟨rfl, q⟩
end Go.Proofs.Ytefepklacchghaa
