/- record: no stores; the document's Stores; equal stores. -/
import Derived.Test.YtefepklacchghaaPsame
namespace Go.Proofs.Ytefepklacchghaa
set_option linter.unusedVariables false
set_option linter.unusedSimpArgs false
open Go.RowKit Go.Shelf
set_option maxRecDepth 100000 in
set_option maxHeartbeats 8000000 in
theorem stores_F (n : Int) (l : Bs) (w : World) (hl : l.length ≤ 1048576) (h : ¬okR n l) : Calls Try.prog 15 #[.int .i64 7, recV n l] w fun e w' => e = .returned (.tuple #[.slice none 0 0, .int .i64 250]) ∧ Below w.heap.size w w' := by
  have q := Below.refl w.heap.size w
  refine X.fnM Try.func15 rfl (n := 32) rfl rfl ?_
  refine CC.seq ?_
  refine CC.region ?_
  refine LL.box [Value.int IntKind.i64 7] rfl rfl rfl rfl rfl ?_
  intro W2 g3 eg3 r4 z5 b1
  replace q := q.trans (b1.mono q.size)
  have l6 := r4.lt
  refine LL.box [Value.int IntKind.i64 n, strV l] rfl rfl rfl rfl rfl ?_
  intro W8 g9 eg9 r10 z11 b7
  replace r4 := r4.up b7
  replace b1 := b1.trans (b7.mono b1.size)
  replace q := q.trans (b7.mono q.size)
  refine LL.val (R.assign rfl rfl) rfl rfl rfl ?_
  refine LL.val (R.assign rfl rfl) rfl rfl rfl ?_
  refine LL.nilS ?_
  refine CC.seq ?_
  refine CC.region ?_
  refine LL.val (R.load rfl rfl (I.ldNc (vs := [Value.int IntKind.i64 n, strV l]) (RowL.cells r10 rfl) (by rfl) (by rfl))) rfl rfl rfl ?_
  refine LL.call (R.call rfl rfl rfl) rfl rfl rfl (words_F n l _ hl h) ?_
  rintro e W1 ⟨rfl, b1⟩
  refine ⟨_, rfl, ?_⟩
  replace q := q.trans (b1.mono q.size)
  replace r4 := r4.up b1
  replace r10 := r10.up b1
  have y1 := q.size
  clear b1
  refine LL.val (R.move rfl rfl) rfl rfl rfl ?_
  refine LL.val (R.extract rfl rfl rfl) rfl rfl rfl ?_
  refine LL.val (R.extract rfl rfl rfl) rfl rfl rfl ?_
  have la1 := r4.lt
  have la2 := r10.lt
  refine LL.alloc ([Value.slice none 0 0]) rfl rfl rfl rfl rfl ?_
  intro Wa4 ga5 ega5 ra6 za7 ba3
  replace q := q.trans (ba3.mono q.size)
  replace r4 := r4.up ba3
  replace r10 := r10.up ba3
  refine LL.store rfl rfl rfl rfl ra6 (by exact Nat.le_of_ble_eq_true rfl) rfl rfl rfl rfl ?_
  intro Wa9 ra10 ba8 za11
  have hlba8 := ra6.lt
  replace ra10 : RowL Wa9 _ 25 [Value.slice none 0 0] := ra10
  clear ra6
  replace ba3 := ba3.grown ba8 ba3.size (by rintro k ⟨⟩; omega)
  replace q := q.grown ba8 q.size (by rintro k ⟨⟩; omega)
  replace r4 := r4.gr ba8 (by have := r4.lt; omega)
  replace r10 := r10.gr ba8 (by have := r10.lt; omega)
  have ra6 := ra10
  clear ra10
  refine LL.val (R.assign rfl rfl) rfl rfl rfl ?_
  refine LL.nilS ?_
  refine CC.seq ?_
  refine CC.seq ?_
  refine CC.region ?_
  refine LL.val (R.move rfl rfl) rfl rfl rfl ?_
  refine LL.val (R.neT rfl rfl rfl (by omega)) rfl rfl rfl ?_
  refine LL.nilS ?_
  refine CC.yes rfl ?_
  refine CC.seq ?_
  refine CC.region ?_
  refine LL.val (R.move rfl rfl) rfl rfl rfl ?_
  refine LL.val (R.assign rfl rfl) rfl rfl rfl ?_
  refine LL.val (R.assign rfl rfl) rfl rfl rfl ?_
  refine LL.nilS ?_
  refine CC.ret ?_
  refine EE.thenR ?_
  refine EE.retM _ rfl rfl ?_
  exact ⟨rfl, q⟩
set_option maxRecDepth 100000 in
set_option maxHeartbeats 8000000 in
theorem rstores_F (n : Int) (l : Bs) (w : World) (hl : l.length ≤ 1048576) (h : ¬okR n l) : Calls Try.prog 16 #[.int .i64 7, recV n l] w fun e w' => e = .returned (.tuple #[.slice none 0 0, .int .i64 250]) ∧ Below w.heap.size w w' := by
  have q := Below.refl w.heap.size w
  refine X.fn Try.func16 rfl (n := 36) rfl rfl ?_
  refine CC.seq ?_
  refine CC.region ?_
  refine LL.box [Value.int IntKind.i64 n, strV l] rfl rfl rfl rfl rfl ?_
  intro W2 g3 eg3 r4 z5 b1
  replace q := q.trans (b1.mono q.size)
  refine LL.val (R.assign rfl rfl) rfl rfl rfl ?_
  refine LL.val (R.assign rfl rfl) rfl rfl rfl ?_
  refine LL.nilS ?_
  refine CC.seq ?_
  refine CC.region ?_
  refine LL.val (R.load rfl rfl (I.ldNc (vs := [Value.int IntKind.i64 n, strV l]) (RowL.cells r4 rfl) (by rfl) (by rfl))) rfl rfl rfl ?_
  refine LL.call (R.call rfl rfl rfl) rfl rfl rfl (rwords_F n l _ hl h) ?_
  rintro e W1 ⟨rfl, b1⟩
  refine ⟨_, rfl, ?_⟩
  replace q := q.trans (b1.mono q.size)
  replace r4 := r4.up b1
  have y1 := q.size
  clear b1
  refine LL.val (R.move rfl rfl) rfl rfl rfl ?_
  refine LL.val (R.extract rfl rfl rfl) rfl rfl rfl ?_
  refine LL.val (R.extract rfl rfl rfl) rfl rfl rfl ?_
  refine LL.val (R.assign rfl rfl) rfl rfl rfl ?_
  refine LL.val (R.assign rfl rfl) rfl rfl rfl ?_
  refine LL.nilS ?_
  refine CC.seq ?_
  refine CC.region ?_
  refine LL.val (R.assign rfl rfl) rfl rfl rfl ?_
  refine LL.nilS ?_
  refine CC.seq ?_
  refine CC.seq ?_
  refine CC.region ?_
  refine LL.val (R.assign rfl rfl) rfl rfl rfl ?_
  refine LL.nilS ?_
  refine CC.block ?_
  refine CC.loop (α := Unit) (fun _ => [(0, .int .i64 7), (6, .slice none 0 0), (7, .int .i64 250), (8, .slice none 0 0), (9, .int .i64 1)]) (fun _ W => Below w.heap.size w W) (fun _ => 0) () ⟨rfl, rfl, rfl, rfl, rfl, trivial⟩ q ?_
  rintro _ W q
  show CC none Try.prog _ 36 [] (sl [(0, .int .i64 7), (6, .slice none 0 0), (7, .int .i64 250), (8, .slice none 0 0), (9, .int .i64 1)]) _ W
  refine CC.seq ?_
  refine CC.seq ?_
  refine CC.region ?_
  refine LL.val (R.move rfl rfl) rfl rfl rfl ?_
  refine LL.val (R.move rfl rfl) rfl rfl rfl ?_
  refine LL.val (R.len rfl rfl rfl rfl) rfl rfl rfl ?_
  refine LL.val (R.leF rfl rfl rfl (by omega)) rfl rfl rfl ?_
  refine LL.nilS ?_
  refine CC.no rfl ?_
  refine CC.exit ?_
  refine EE.thenX ?_
  refine EE.thenX ?_
  refine EE.inX ?_
  refine EE.thenN ?_
  refine CC.seq ?_
  refine CC.region ?_
  refine LL.val (R.move rfl rfl) rfl rfl rfl ?_
  refine LL.val (R.move rfl rfl) rfl rfl rfl ?_
  refine LL.val (R.assign rfl rfl) rfl rfl rfl ?_
  refine LL.val (R.assign rfl rfl) rfl rfl rfl ?_
  refine LL.nilS ?_
  refine CC.ret ?_
  refine EE.ret _ rfl rfl ?_
  exact ⟨rfl, q⟩
set_option maxRecDepth 100000 in
set_option maxHeartbeats 8000000 in
theorem rstores_T (n : Nat) (l : Bs) (w : World) (h : okR n l) : Calls Try.prog 16 #[.int .i64 7, recV n l] w fun e w' => ∃ v, e = .returned (.tuple #[v, .int .i64 0]) ∧ OwnsT pE 2 w' w.heap.size 50 v (putsR (recW n l)) ∧ Below w.heap.size w w' := by
  have q := Below.refl w.heap.size w
  have hlr := recW_len (n := n) (nameN_len h.2).2
  refine X.fn Try.func16 rfl (n := 36) rfl rfl ?_
  refine CC.seq ?_
  refine CC.region ?_
  refine LL.box [Value.int IntKind.i64 ↑n, strV l] rfl rfl rfl rfl rfl ?_
  intro W2 g3 eg3 r4 z5 b1
  replace q := q.trans (b1.mono q.size)
  refine LL.val (R.assign rfl rfl) rfl rfl rfl ?_
  refine LL.val (R.assign rfl rfl) rfl rfl rfl ?_
  refine LL.nilS ?_
  refine CC.seq ?_
  refine CC.region ?_
  refine LL.val (R.load rfl rfl (I.ldNc (vs := [Value.int IntKind.i64 ↑n, strV l]) (RowL.cells r4 rfl) (by rfl) (by rfl))) rfl rfl rfl ?_
  refine LL.call (R.call rfl rfl rfl) rfl rfl rfl (rwords_T n l _ h) ?_
  rintro e W1 ⟨v, rfl, o, b1⟩
  refine ⟨_, rfl, ?_⟩
  replace q := q.trans (b1.mono q.size)
  replace r4 := r4.up b1
  have y1 := q.size
  obtain ⟨gv, cv, rfl, hgv, lgv, hcv⟩ := owns_at o (by omega)
  have hR := reads_of_owns o
  clear o b1
  have hput : ∀ x : Nat, x < 16 → ∃ y : Nat, (recW n l)[x]? = some y ∧ putN (recW n l) x = ((7 : Int) + (x : Int), y) := fun x hx => by
    obtain ⟨y, hy⟩ : ∃ y, (recW n l)[x]? = some y := ⟨_, List.getElem?_eq_getElem (by omega)⟩
    exact ⟨y, hy, by unfold putN; rw [hy]; rfl⟩
  refine LL.val (R.move rfl rfl) rfl rfl rfl ?_
  refine LL.val (R.extract rfl rfl rfl) rfl rfl rfl ?_
  refine LL.val (R.extract rfl rfl rfl) rfl rfl rfl ?_
  refine LL.val (R.assign rfl rfl) rfl rfl rfl ?_
  refine LL.val (R.assign rfl rfl) rfl rfl rfl ?_
  refine LL.nilS ?_
  refine CC.seq ?_
  refine CC.region ?_
  refine LL.val (R.assign rfl rfl) rfl rfl rfl ?_
  refine LL.nilS ?_
  refine CC.seq ?_
  refine CC.seq ?_
  refine CC.region ?_
  refine LL.val (R.assign rfl rfl) rfl rfl rfl ?_
  refine LL.nilS ?_
  refine CC.block ?_
  have hB : ∃ B, W1.heap.size = B := ⟨_, rfl⟩
  obtain ⟨B, hB⟩ := hB
  rw [hB] at lgv y1
  refine CC.loop (α := Nat × Value) (fun s => [(0, .int .i64 7), (6, .slice (some ⟨gv, 0, none⟩) 16 cv), (7, .int .i64 0), (8, s.2), (9, .int .i64 ((s.1 + 1 : Nat) : Int))])
    (fun s W => s.1 ≤ 16 ∧ Below w.heap.size w W ∧ B ≤ W.heap.size ∧ Reads W (.slice (some ⟨gv, 0, none⟩) 16 cv) (ints .u64 (recW n l)) ∧ OwnsT pE 2 W B 50 s.2 ((turnL.take s.1).map (putN (recW n l)))) (fun s => 16 - s.1)
    (0, .slice none 0 0) ⟨rfl, rfl, rfl, rfl, rfl, trivial⟩ ⟨by show 0 ≤ 16; omega, q, by omega, hR, OwnsT.none _ _ _⟩ ?_
  clear q hR r4 hB
  rintro ⟨i, v⟩ W ⟨hi, q, yB, hR, o⟩
  simp only at hi o
  show CC none Try.prog _ 36 [] (sl [(0, .int .i64 7), (6, .slice (some ⟨gv, 0, none⟩) 16 cv), (7, .int .i64 0), (8, v), (9, .int .i64 ((i + 1 : Nat) : Int))]) _ W
  by_cases hlt : i < 16
  case neg =>
    obtain rfl : i = 16 := by omega
    refine CC.seq ?_
    refine CC.seq ?_
    refine CC.region ?_
    refine LL.val (R.move rfl rfl) rfl rfl rfl ?_
    refine LL.val (R.move rfl rfl) rfl rfl rfl ?_
    refine LL.val (R.len rfl rfl rfl rfl) rfl rfl rfl ?_
    refine LL.val (R.leF rfl rfl rfl (by omega)) rfl rfl rfl ?_
    refine LL.nilS ?_
    refine CC.no rfl ?_
    refine CC.exit ?_
    refine EE.thenX ?_
    refine EE.thenX ?_
    refine EE.inX ?_
    refine EE.thenN ?_
    refine CC.seq ?_
    refine CC.region ?_
    refine LL.val (R.move rfl rfl) rfl rfl rfl ?_
    refine LL.val (R.move rfl rfl) rfl rfl rfl ?_
    refine LL.val (R.assign rfl rfl) rfl rfl rfl ?_
    refine LL.val (R.assign rfl rfl) rfl rfl rfl ?_
    refine LL.nilS ?_
    refine CC.ret ?_
    refine EE.ret _ rfl rfl ?_
    exact ⟨_, rfl, o.lower y1, q⟩
  obtain ⟨y, hy, hpy⟩ := hput ((i + 1) % 16) (by omega)
  have c1 := reads_int hR hy
  have hnv := own_ne o lgv
  have hpl : (turnL.take i).length ≤ 16 := by simp [turnL]; omega
  have hst := turn_take hlt
  refine CC.seq ?_
  refine CC.seq ?_
  refine CC.region ?_
  refine LL.val (R.move rfl rfl) rfl rfl rfl ?_
  refine LL.val (R.move rfl rfl) rfl rfl rfl ?_
  refine LL.val (R.len rfl rfl rfl rfl) rfl rfl rfl ?_
  refine LL.val (R.leT rfl rfl rfl (by omega)) rfl rfl rfl ?_
  refine LL.nilS ?_
  refine CC.yes rfl ?_
  refine CC.skip ?_
  refine EE.thenN ?_
  refine CC.seq ?_
  refine CC.block ?_
  refine CC.region ?_
  refine LL.val (R.move rfl rfl) rfl rfl rfl ?_
  refine LL.val (R.move rfl rfl) rfl rfl rfl ?_
  refine LL.val (R.move rfl rfl) rfl rfl rfl ?_
  refine LL.val (R.remNc rfl rfl rfl rfl (by omega)) rfl rfl rfl ?_
  refine LL.val (R.addI rfl rfl rfl (by omega)) rfl rfl rfl ?_
  refine LL.val (R.move rfl rfl) rfl rfl rfl ?_
  refine LL.val (R.move rfl rfl) rfl rfl rfl ?_
  refine LL.val (R.remNc rfl rfl rfl rfl (by omega)) rfl rfl rfl ?_
  refine LL.val (R.index rfl rfl rfl (I.ixS1 rfl (by omega))) rfl rfl rfl ?_
  refine LL.val (R.load rfl rfl (I.ld1 rfl (by assumption))) rfl rfl rfl ?_
  refine LL.val (R.buildV rfl rfl (v := .agg #[Value.int IntKind.i64 (7 + ↑((i + 1) % 16)), Value.int IntKind.u64 ↑y]) (fun _ => by kernel_rfl)) rfl rfl rfl ?_
  refine LL.lit (e := 50) [Value.int IntKind.i64 (7 + ↑((i + 1) % 16)), Value.int IntKind.u64 ↑y] 1 rfl rfl (fun _ => by kernel_rfl) rfl rfl ?_
  intro Wc2 gc3 egc3 rc4 zc5 bc1
  replace q := q.trans (bc1.mono q.size)
  replace hR := hR.up bc1
  replace o := o.up bc1
  replace c1 := cell_up c1 bc1
  refine LL.appendT2 rfl rfl pEnc ElPut o (RowL.readsT (ts := [((7 : Int) + (((i + 1) % 16 : Nat) : Int), y)]) pEnc (by assumption) 1 (by simp)) (by simp [maxLen]; omega) (by simp; omega) (by have := q.size; omega) rfl rfl ?_
  intro v' Wa oa gra hva
  replace q := q.grown gra (by have := q.size; omega) (fun g hg => by have := own_ge o g hg; omega)
  replace hR := hR.grO gra hnv
  have hsz := gra.size
  rw [show (turnL.take i).map (putN (recW n l)) ++ [((7 : Int) + (((i + 1) % 16 : Nat) : Int), y)] = (turnL.take (i + 1)).map (putN (recW n l)) by rw [hst, List.map_append, List.map_cons, List.map_nil, hpy]] at oa
  obtain ⟨a', cp, rfl, hcp⟩ := (oa.reads pEnc).form rfl
  refine LL.val (R.assign rfl rfl) rfl rfl rfl ?_
  refine LL.nil ?_
  refine EE.inN ?_
  refine EE.thenN ?_
  refine CC.region ?_
  refine LL.val (R.move rfl rfl) rfl rfl rfl ?_
  refine LL.val (R.addNc rfl rfl rfl rfl (by omega)) rfl rfl rfl ?_
  refine LL.val (R.assign rfl rfl) rfl rfl rfl ?_
  refine LL.nil ?_
  exact EE.round (i + 1, _) ⟨rfl, rfl, rfl, rfl, rfl, trivial⟩ ⟨by show i + 1 ≤ 16; omega, q, by omega, hR, oa⟩ (by show 16 - (i + 1) < 16 - i; omega)
end Go.Proofs.Ytefepklacchghaa
