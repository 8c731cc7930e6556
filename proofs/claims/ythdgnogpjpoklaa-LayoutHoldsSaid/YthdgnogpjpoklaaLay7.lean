/- layout: what a word belongs to. -/
import Derived.Test.YthdgnogpjpoklaaLay6
namespace Go.Proofs.Ythdgnogpjpoklaa
set_option linter.unusedVariables false
set_option linter.unusedSimpArgs false
open Go.RowKit Go.Shelf

/-- What is told last, till a part begins behind the word. -/
def scanP (word : Nat) : List Pa → Nat × Nat → Nat × Nat
  | [], acc => acc
  | x :: l, acc => if x.1 ≤ word then scanP word l x.2 else acc
theorem scan_app {word : Nat} : ∀ {pre l : List Pa} {acc : Nat × Nat}, (∀ x ∈ pre, x.1 ≤ word) → scanP word (pre ++ l) acc = scanP word l (scanP word pre acc)
  | [], _, _, _ => rfl
  | x :: pre, l, acc, h => by
    have hx := h x (List.mem_cons_self ..)
    simp only [List.cons_append, scanP, if_pos hx]
    exact scan_app fun y hy => h y (List.mem_cons_of_mem _ hy)
theorem scan_snoc {word : Nat} {pre : List Pa} {x : Pa} (h : ∀ y ∈ pre, y.1 ≤ word) (hx : x.1 ≤ word) : scanP word (pre ++ [x]) (0, 0) = x.2 := by
  rw [scan_app h]
  simp [scanP, hx]
theorem scan_stop {word : Nat} {pre t : List Pa} {x : Pa} (h : ∀ y ∈ pre, y.1 ≤ word) (hx : ¬x.1 ≤ word) : scanP word (pre ++ x :: t) (0, 0) = scanP word pre (0, 0) := by
  rw [scan_app h]
  simp [scanP, hx]

set_option maxRecDepth 100000 in
set_option maxHeartbeats 8000000 in
theorem part_any (b i r t k1 k2 : Nat) (a c d e : Int) (word : Nat) (w : World) (hl : isL b i r t a c d e) (hw : word < 64 * b) : Calls Try.prog 20 #[layV b i r t k1 k2 a c d e, .int .i64 (word : Int)] w fun x w' => x = .returned (.tuple #[.agg #[.int .i64 ((scanP word (allP b i r) (0, 0)).1 : Int), .int .i64 ((scanP word (allP b i r) (0, 0)).2 : Int)], .int .i64 0]) ∧ Below w.heap.size w w' := by
  have q := Below.refl w.heap.size w
  refine X.fnM Try.func20 rfl (n := 31) rfl rfl ?_
  refine CC.seq ?_
  refine CC.region ?_
  refine LL.box [Value.int IntKind.i64 ↑b, Value.int IntKind.i64 ↑i, Value.int IntKind.i64 ↑r, Value.int IntKind.i64 ↑t, Value.int IntKind.u64 ↑k1, Value.int IntKind.u64 ↑k2, Value.int IntKind.i64 a, Value.int IntKind.i64 c, Value.int IntKind.i64 d, Value.int IntKind.i64 e] rfl rfl rfl rfl rfl ?_
  intro W2 g3 eg3 r4 z5 b1
  replace q := q.trans (b1.mono q.size)
  have l6 := r4.lt
  refine LL.box [Value.int IntKind.i64 ↑word] rfl rfl rfl rfl rfl ?_
  intro W8 g9 eg9 r10 z11 b7
  replace r4 := r4.up b7
  replace b1 := b1.trans (b7.mono b1.size)
  replace q := q.trans (b7.mono q.size)
  have l12 := r10.lt
  have l13 := r4.lt
  refine LL.alloc ([Value.int IntKind.i64 0, Value.int IntKind.i64 0]) rfl rfl rfl rfl rfl ?_
  intro W15 g16 eg16 r17 z18 b14
  replace r10 := r10.up b14
  replace b7 := b7.trans (b14.mono b7.size)
  replace r4 := r4.up b14
  replace b1 := b1.trans (b14.mono b1.size)
  replace q := q.trans (b14.mono q.size)
  refine LL.val (R.assign rfl rfl) rfl rfl rfl ?_
  refine LL.nilS ?_
  refine CC.straight ?_
  refine CC.seq ?_
  refine CC.seq ?_
  refine CC.region ?_
  refine LL.val (R.load rfl rfl (I.ldNc (vs := [Value.int IntKind.i64 ↑b, Value.int IntKind.i64 ↑i, Value.int IntKind.i64 ↑r, Value.int IntKind.i64 ↑t, Value.int IntKind.u64 ↑k1, Value.int IntKind.u64 ↑k2, Value.int IntKind.i64 a, Value.int IntKind.i64 c, Value.int IntKind.i64 d, Value.int IntKind.i64 e]) (RowL.cells r4 rfl) (by rfl) (by rfl))) rfl rfl rfl ?_
  refine LL.callBT (R.call rfl rfl rfl) rfl rfl rfl (is_any _ _ _ _ _ _ _ _ _ _ _) (by first | assumption | omega) (fun W20 b19 => ?_)
  have zb19 := b19.size
  replace r17 := r17.up b19
  replace b14 := b14.trans (b19.mono b14.size)
  replace r10 := r10.up b19
  replace b7 := b7.trans (b19.mono b7.size)
  replace r4 := r4.up b19
  replace b1 := b1.trans (b19.mono b1.size)
  replace q := q.trans (b19.mono q.size)
  refine LL.val (R.not rfl rfl) rfl rfl rfl ?_
  refine LL.nilS ?_
  refine CC.no rfl ?_
  refine CC.skip ?_
  refine EE.thenN ?_
  refine CC.seq ?_
  refine CC.seq ?_
  refine CC.region ?_
  refine LL.val (R.load rfl rfl (I.ld1 rfl (RowL.cell r10 rfl))) rfl rfl rfl ?_
  refine LL.val (R.field rfl rfl (I.fld rfl)) rfl rfl rfl ?_
  refine LL.val (R.field rfl rfl (I.fld rfl)) rfl rfl rfl ?_
  refine LL.val (R.load rfl rfl (I.ld1 rfl (RowL.cell r4 rfl))) rfl rfl rfl ?_
  refine LL.val (R.mulNc rfl rfl rfl rfl (by omega)) rfl rfl rfl ?_
  refine LL.val (R.subNc rfl rfl rfl rfl (by omega) (by omega)) rfl rfl rfl ?_
  refine LL.callDT (R.call rfl rfl rfl) rfl rfl rfl (within_any _ _ _ _) (by first | assumption | omega) ?_
  refine LL.val (R.not rfl rfl) rfl rfl rfl ?_
  refine LL.nilS ?_
  refine CC.no rfl ?_
  refine CC.skip ?_
  refine EE.thenN ?_
  refine CC.seq ?_
  refine CC.region ?_
  have l21 := r17.lt
  have l22 := r10.lt
  have l23 := r4.lt
  refine LL.alloc ([Value.int IntKind.i64 0, Value.int IntKind.i64 0]) rfl rfl rfl rfl rfl ?_
  intro W25 g26 eg26 r27 z28 b24
  replace b19 := b19.trans (b24.mono b19.size)
  replace r17 := r17.up b24
  replace b14 := b14.trans (b24.mono b14.size)
  replace r10 := r10.up b24
  replace b7 := b7.trans (b24.mono b7.size)
  replace r4 := r4.up b24
  replace b1 := b1.trans (b24.mono b1.size)
  replace q := q.trans (b24.mono q.size)
  refine LL.nilS ?_
  refine CC.seq ?_
  refine CC.label ?_
  refine EE.thenN ?_
  refine CC.seq ?_
  refine CC.seq ?_
  refine CC.region ?_
  refine LL.val (R.load rfl rfl (I.ldNc (vs := [Value.int IntKind.i64 ↑b, Value.int IntKind.i64 ↑i, Value.int IntKind.i64 ↑r, Value.int IntKind.i64 ↑t, Value.int IntKind.u64 ↑k1, Value.int IntKind.u64 ↑k2, Value.int IntKind.i64 a, Value.int IntKind.i64 c, Value.int IntKind.i64 d, Value.int IntKind.i64 e]) (RowL.cells r4 rfl) (by rfl) (by rfl))) rfl rfl rfl ?_
  refine LL.call (R.call rfl rfl rfl) rfl rfl rfl (peach_any _ _ _ _ _ _ _ _ _ _ _) ?_
  rintro e W30 ⟨g31, rfl, r32, l33, b29⟩
  refine ⟨_, rfl, ?_⟩
  have zb29 := b29.size
  replace r27 := r27.up b29
  replace b24 := b24.trans (b29.mono b24.size)
  replace b19 := b19.trans (b29.mono b19.size)
  replace r17 := r17.up b29
  replace b14 := b14.trans (b29.mono b14.size)
  replace r10 := r10.up b29
  replace b7 := b7.trans (b29.mono b7.size)
  replace r4 := r4.up b29
  replace b1 := b1.trans (b29.mono b1.size)
  replace q := q.trans (b29.mono q.size)
  refine LL.nilS ?_
  refine CC.block ?_
  have yB := q.size
  have hG := each_gives b i r t k1 k2 a c d e g31 W30 hl ⟨_, r32⟩
  have l9 := r10.lt
  have l26 := r27.lt
  have l16 := r17.lt
  refine CC.rangeZ (γ := Nat) (gf := 36) (lb := [.pointer (some ⟨g31, 0, none⟩)]) (encs := paE) rfl rfl hG (Below.refl _ _) (fun _ h => h.elim) (fun _ => rfl) rfl
    (fun m (pre : List Pa) W' => Below w.heap.size w W' ∧ (∀ y ∈ pre, y.1 ≤ word) ∧ RowL W' g9 3 [.int .i64 (word : Int)] ∧ RowL W' g16 46 [.int .i64 0, .int .i64 0] ∧ RowL W' g26 46 [.int .i64 ((scanP word pre (0, 0)).1 : Int), .int .i64 ((scanP word pre (0, 0)).2 : Int)])
    (fun m (pre : List Pa) W' => Below w.heap.size w W' ∧ RowL W' g16 46 [.int .i64 0, .int .i64 0] ∧ RowL W' g26 46 [.int .i64 ((scanP word (allP b i r) (0, 0)).1 : Int), .int .i64 ((scanP word (allP b i r) (0, 0)).2 : Int)])
    (fun W' => Below w.heap.size w W' ∧ RowL W' g16 46 [.int .i64 0, .int .i64 0] ∧ RowL W' g26 46 [.int .i64 ((scanP word (allP b i r) (0, 0)).1 : Int), .int .i64 ((scanP word (allP b i r) (0, 0)).2 : Int)])
    (fun m m' s X Y hs ht hg => ⟨hs.1.trans (ht.below yB hs.1.size), hs.2.1, ht.row hs.2.2.1 (.inl l9), ht.row hs.2.2.2.1 (.inl l16), ht.row hs.2.2.2.2 (.inl l26)⟩)
    (fun m m' s X Y hs ht hg => ⟨hs.1.trans (ht.below yB hs.1.size), ht.row hs.2.1 (.inl l16), ht.row hs.2.2 (.inl l26)⟩)
    ⟨q, fun y hy => (by cases hy), r10, r17, r27⟩ ?hIA ?hIxA
    (fun x g => sl [(3, .pointer (some ⟨g9, 0, none⟩)), (4, .pointer (some ⟨g16, 0, none⟩)), (6, .pointer (some ⟨g26, 0, none⟩)), (7, .int .i64 (x.1 : Int)), (8, .pointer (some ⟨g, 0, none⟩))]) (fun x g W' => RowL W' g 46 [.int .i64 (x.2.1 : Int), .int .i64 (x.2.2 : Int)] ∧ g26 < g) (fun x g => fun _ W W' row h hg hr => ⟨RowL.own () W W' row h.1 hg hr, h.2⟩) ?assign ?body ?after
  case hIA =>
    rintro m xs W' rfl ⟨h1, _, _, h16, h26⟩
    exact ⟨h1, h16, h26⟩
  case hIxA =>
    rintro m pre W' _ h
    exact h
  case assign =>
    rintro l' m pre x W K hm ⟨h1, h2, h9, h16, h26⟩ hK
    have qa := Below.refl W.heap.size W
    have ySz := h1.size
    have l26' := h26.lt
    refine CC.seq ?_
    refine CC.region ?_
    refine LL.val (R.assign rfl rfl) rfl rfl rfl ?_
    refine LL.nilS ?_
    refine CC.region ?_
    have la1 := h9.lt
    have la2 := h16.lt
    have la3 := h26.lt
    refine LL.alloc ([Value.int IntKind.i64 0, Value.int IntKind.i64 0]) rfl rfl rfl rfl rfl ?_
    intro Wa5 ga6 ega6 ra7 za8 ba4
    replace h1 := h1.trans (ba4.mono h1.size)
    replace h9 := h9.up ba4
    replace h16 := h16.up ba4
    replace h26 := h26.up ba4
    replace qa := qa.trans (ba4.mono qa.size)
    refine LL.storeN (vs := [Value.int IntKind.i64 ↑x.2.1, Value.int IntKind.i64 ↑x.2.2]) rfl rfl rfl rfl ra7 (by exact Nat.le_of_ble_eq_true rfl) (ones_of rfl) rfl rfl ?_
    intro Wa10 ra11 ba9 za12
    have hlba9 := ra7.lt
    replace ra11 : RowL Wa10 _ 46 [Value.int IntKind.i64 ↑x.2.1, Value.int IntKind.i64 ↑x.2.2] := ra11
    clear ra7
    replace ba4 := ba4.grown ba9 ba4.size (by rintro k ⟨⟩; omega)
    replace h1 := h1.grown ba9 h1.size (by rintro k ⟨⟩; omega)
    replace h9 := h9.gr ba9 (by have := h9.lt; omega)
    replace h16 := h16.gr ba9 (by have := h16.lt; omega)
    replace h26 := h26.gr ba9 (by have := h26.lt; omega)
    replace qa := qa.grown ba9 qa.size (by rintro k ⟨⟩; omega)
    have ra7 := ra11
    clear ra11
    refine LL.nil ?_
    exact EE.thenK fun a' F => hK a' _ _ (StaysZ.of_below qa) (Keeps.of_below (fun k hk => hk.elim) qa) ⟨h1, h2, h9, h16, h26⟩ (F.keep _ ⟨rfl, rfl, rfl, rfl, rfl, trivial⟩) ⟨by assumption, by have := h26.lt; omega⟩
  case body =>
    rintro l' m pre x g W hm hl' hrl ⟨h1, h2, h9, h16, h26⟩ ⟨hx, hg⟩ ⟨_, rfl, tt, hp⟩
    have st := StaysZ.refl W30.heap.size m W
    have kp := Keeps.refl (fun _ => False) W
    by_cases hxw : x.1 ≤ word
    · refine CC.block ?_
      refine CC.seq ?_
      refine CC.seq ?_
      refine CC.region ?_
      refine LL.val (R.move rfl rfl) rfl rfl rfl ?_
      refine LL.val (R.load rfl rfl (I.ld1 rfl (RowL.cell h9 rfl))) rfl rfl rfl ?_
      refine LL.val (R.gtF rfl rfl rfl (by omega)) rfl rfl rfl ?_
      refine LL.nilS ?_
      refine CC.no rfl ?_
      refine CC.skip ?_
      refine EE.thenN ?_
      refine CC.region ?_
      refine LL.val (R.load rfl rfl (I.ldNc (vs := [Value.int IntKind.i64 ↑x.2.1, Value.int IntKind.i64 ↑x.2.2]) (RowL.cells hx rfl) (by rfl) (by rfl))) rfl rfl rfl ?_
      refine LL.storeN (vs := [Value.int IntKind.i64 ↑x.2.1, Value.int IntKind.i64 ↑x.2.2]) rfl rfl rfl rfl h26 (by exact Nat.le_of_ble_eq_true rfl) (ones_of rfl) rfl rfl ?_
      intro Wb2 rb3 bb1 zb4
      have hlbb1 := h26.lt
      replace rb3 : RowL Wb2 _ 46 [Value.int IntKind.i64 ↑x.2.1, Value.int IntKind.i64 ↑x.2.2] := rb3
      clear h26
      replace h1 := h1.grown bb1 h1.size (by rintro k ⟨⟩; omega)
      replace h9 := h9.gr bb1 (by have := h9.lt; omega)
      replace h16 := h16.gr bb1 (by have := h16.lt; omega)
      replace hx := hx.gr bb1 (by have := hx.lt; omega)
      replace st := st.trans (StaysZ.of_grown bb1 (by omega))
      replace kp := kp.trans (Keeps.of_grown bb1 fun k hk => hk.elim)
      have h26 := rb3
      clear rb3
      refine LL.nil ?_
      refine EE.inN ?_
      (refine EE.roundNZ ⟨st, kp, h1, fun y hy => ?_, h9, h16, by rw [scan_snoc h2 hxw]; exact h26⟩; rcases List.mem_append.1 hy with hy | hy; exact h2 y hy; obtain rfl : y = x := (by simpa using hy); exact hxw)
    · rw [List.append_assoc] at hp
      refine CC.block ?_
      refine CC.seq ?_
      refine CC.seq ?_
      refine CC.region ?_
      refine LL.val (R.move rfl rfl) rfl rfl rfl ?_
      refine LL.val (R.load rfl rfl (I.ld1 rfl (RowL.cell h9 rfl))) rfl rfl rfl ?_
      refine LL.val (R.gtT rfl rfl rfl (by omega)) rfl rfl rfl ?_
      refine LL.nilS ?_
      refine CC.yes rfl ?_
      refine CC.exit ?_
      refine EE.thenX ?_
      refine EE.inX' rfl ?_
      exact EE.roundXZ ⟨st, rfl, h1, h16, by rw [← hp]; simp only [List.singleton_append]; rw [scan_stop h2 hxw]; exact h26⟩
  case after =>
    rintro E W hE ⟨h1, h16, h26⟩ hE1
    refine EE.thenN ?_
    refine CC.seq ?_
    refine CC.region ?_
    refine LL.val (R.load rfl rfl (I.ldNc (vs := [Value.int IntKind.i64 ↑(scanP word (allP b i r) (0, 0)).1, Value.int IntKind.i64 ↑(scanP word (allP b i r) (0, 0)).2]) (RowL.cells h26 rfl) (by rfl) (by rfl))) rfl rfl rfl ?_
    refine LL.storeN (vs := [Value.int IntKind.i64 ↑(scanP word (allP b i r) (0, 0)).1, Value.int IntKind.i64 ↑(scanP word (allP b i r) (0, 0)).2]) rfl rfl rfl rfl h16 (by exact Nat.le_of_ble_eq_true rfl) (ones_of rfl) rfl rfl ?_
    intro Wd2 rd3 bd1 zd4
    have hlbd1 := h16.lt
    replace rd3 : RowL Wd2 _ 46 [Value.int IntKind.i64 ↑(scanP word (allP b i r) (0, 0)).1, Value.int IntKind.i64 ↑(scanP word (allP b i r) (0, 0)).2] := rd3
    clear h16
    replace h1 := h1.grown bd1 h1.size (by rintro k ⟨⟩; omega)
    replace h26 := h26.gr bd1 (by have := h26.lt; omega)
    replace hE1 := (bd1.block _ (Array.getElem?_eq_some_iff.1 hE1).1 (by simp; omega)).trans hE1
    have h16 := rd3
    clear rd3
    refine LL.val (R.assign rfl rfl) rfl rfl rfl ?_
    refine LL.nilS ?_
    refine CC.ret ?_
    refine EE.noR ?_
    refine EE.retN2 hE1 rfl ⟨_, rfl, lvNc (RowL.cells0 (taken_up (by assumption) (by omega))) (by rfl) (by rfl)⟩ rfl ?_
    exact ⟨rfl, taken_bel h1 (by omega) (Nat.le_refl _)⟩
end Go.Proofs.Ythdgnogpjpoklaa
