/- layout: reading a device's words: what is told. -/
import Derived.Test.YthdgnogpjpoklaaLay8
import Derived.Test.YthdgnogpjpoklaaSl
import Derived.Test.YthdgnogpjpoklaaWEq
namespace Go.Proofs.Ythdgnogpjpoklaa
set_option linter.unusedVariables false
set_option linter.unusedSimpArgs false
open Go.RowKit Go.Shelf
/-- A word of a list. -/
def wd (ws : List Nat) (j : Nat) : Nat := ws[j]?.getD 0
/-- Are these words a device's? -/
def rdOk (ws : List Nat) : Prop := 64 ≤ ws.length ∧ okF (wd ws 1) (wd ws 2) (wd ws 3) (wd ws 4) ∧ ws.length = 64 * wd ws 1 ∧ ws.take 64 = supL (wd ws 1) (wd ws 2) (wd ws 3) (wd ws 4) (wd ws 5) (wd ws 6)
def clip (n : Nat) : Nat := if 2049 < n then 2049 else n
theorem clip_or (n : Nat) : clip n = n ∨ (clip n = 2049 ∧ 2049 < n) := by
  unfold clip
  split
  · exact .inr ⟨rfl, by assumption⟩
  · exact .inl rfl
theorem clip_ok (b i r t : Nat) : okF (clip b) (clip i) (clip r) (clip t) ↔ okF b i r t := by
  rcases clip_or b with h1 | h1
  case inr => constructor <;> intro h <;> exfalso <;> omega
  rcases clip_or i with h2 | h2
  case inr => constructor <;> intro h <;> exfalso <;> omega
  rcases clip_or r with h3 | h3
  case inr => constructor <;> intro h <;> exfalso <;> omega
  rcases clip_or t with h4 | h4
  case inr => constructor <;> intro h <;> exfalso <;> omega
  rw [h1, h2, h3, h4]
theorem clip_same {n : Nat} (h : n ≤ 2048) : clip n = n := by
  unfold clip
  rw [if_neg (by omega)]

theorem clip_le (n : Nat) : clip n ≤ 2049 := by
  rcases clip_or n with h | h <;> unfold clip at * <;> split <;> omega
/-- No form: told so that no arithmetic looks into it. -/
def notC (ws : List Nat) : Prop := ¬okF (clip (wd ws 1)) (clip (wd ws 2)) (clip (wd ws 3)) (clip (wd ws 4))

set_option maxRecDepth 100000 in
set_option maxHeartbeats 8000000 in
theorem read_short (v : Value) (ws : List Nat) (w : World) (hv : Reads w v (ints .u64 ws)) (h64 : ws.length < 64) : Calls Try.prog 22 #[v] w fun x w' => x = .returned (.tuple #[layV 0 0 0 0 0 0 0 0 0 0, .int .i64 230]) ∧ Below w.heap.size w w' := by
  have q := Below.refl w.heap.size w
  obtain ⟨a, cap, rfl, hcap, _⟩ := hv.ints
  refine X.fn Try.func22 rfl (n := 76) rfl rfl ?_
  refine CC.seq ?_
  refine CC.region ?_
  refine LL.alloc ([Value.int IntKind.i64 0, Value.int IntKind.i64 0, Value.int IntKind.i64 0, Value.int IntKind.i64 0, Value.int IntKind.u64 0, Value.int IntKind.u64 0, Value.int IntKind.i64 0, Value.int IntKind.i64 0, Value.int IntKind.i64 0, Value.int IntKind.i64 0]) rfl rfl rfl rfl rfl ?_
  intro W2 g3 eg3 r4 z5 b1
  replace q := q.trans (b1.mono q.size)
  replace hv := hv.up b1
  refine LL.val (R.assign rfl rfl) rfl rfl rfl ?_
  refine LL.nilS ?_
  refine CC.fwd (l := 0) (α := Unit) (fun _ => []) (fun _ => [(2, .pointer (some ⟨g3, 0, none⟩))]) (fun _ W => Below w.heap.size w W ∧ RowL W g3 27 [.int .i64 0, .int .i64 0, .int .i64 0, .int .i64 0, .int .u64 0, .int .u64 0, .int .i64 0, .int .i64 0, .int .i64 0, .int .i64 0]) rfl ?first ?pass
  case pass =>
    rintro _ W ⟨q, r4⟩
    refine CC.seq ?_
    refine CC.skip ?_
    refine EE.thenN ?_
    refine CC.seq ?_
    refine CC.region ?_
    refine LL.val (R.buildV rfl rfl (v := .agg #[Value.int IntKind.i64 0, Value.int IntKind.i64 0, Value.int IntKind.i64 0, Value.int IntKind.i64 0, Value.int IntKind.u64 0, Value.int IntKind.u64 0, Value.int IntKind.i64 0, Value.int IntKind.i64 0, Value.int IntKind.i64 0, Value.int IntKind.i64 0]) (fun _ => by kernel_rfl)) rfl rfl rfl ?_
    refine LL.storeN (vs := [Value.int IntKind.i64 0, Value.int IntKind.i64 0, Value.int IntKind.i64 0, Value.int IntKind.i64 0, Value.int IntKind.u64 0, Value.int IntKind.u64 0, Value.int IntKind.i64 0, Value.int IntKind.i64 0, Value.int IntKind.i64 0, Value.int IntKind.i64 0]) rfl rfl rfl rfl r4 (by exact Nat.le_of_ble_eq_true rfl) (ones_of rfl) rfl rfl ?_
    intro Wa2 ra3 ba1 za4
    have hlba1 := r4.lt
    replace ra3 : RowL Wa2 _ 27 [Value.int IntKind.i64 0, Value.int IntKind.i64 0, Value.int IntKind.i64 0, Value.int IntKind.i64 0, Value.int IntKind.u64 0, Value.int IntKind.u64 0, Value.int IntKind.i64 0, Value.int IntKind.i64 0, Value.int IntKind.i64 0, Value.int IntKind.i64 0] := ra3
    clear r4
    replace q := q.grown ba1 q.size (by rintro k ⟨⟩; omega)
    have r4 := ra3
    clear ra3
    refine LL.val (R.assign rfl rfl) rfl rfl rfl ?_
    refine LL.nilS ?_
    refine CC.ret ?_
    refine EE.jumpR ?_
    refine EE.ret2 rfl ⟨_, rfl, lvNc (RowL.cells0 (by assumption)) (by rfl) (by rfl)⟩ rfl ?_
    exact ⟨rfl, q⟩
  case first =>
    refine CC.seq ?_
    refine CC.region ?_
    have lb1 := r4.lt
    refine LL.alloc ([Value.int IntKind.i64 0, Value.int IntKind.i64 0, Value.int IntKind.i64 0, Value.int IntKind.i64 0, Value.int IntKind.u64 0, Value.int IntKind.u64 0, Value.int IntKind.i64 0, Value.int IntKind.i64 0, Value.int IntKind.i64 0, Value.int IntKind.i64 0]) rfl rfl rfl rfl rfl ?_
    intro Wb3 gb4 egb4 rb5 zb6 bb2
    replace r4 := r4.up bb2
    replace b1 := b1.trans (bb2.mono b1.size)
    replace q := q.trans (bb2.mono q.size)
    replace hv := hv.up bb2
    refine LL.nilS ?_
    refine CC.seq ?_
    refine CC.region ?_
    refine LL.val (R.assign rfl rfl) rfl rfl rfl ?_
    refine LL.nilS ?_
    refine CC.seq ?_
    refine CC.region ?_
    refine LL.val (R.assign rfl rfl) rfl rfl rfl ?_
    refine LL.nilS ?_
    refine CC.seq ?_
    refine CC.seq ?_
    refine CC.region ?_
    refine LL.val (R.move rfl rfl) rfl rfl rfl ?_
    refine LL.val (R.len rfl rfl rfl rfl) rfl rfl rfl ?_
    refine LL.val (R.ltT rfl rfl rfl (by omega)) rfl rfl rfl ?_
    refine LL.nilS ?_
    refine CC.yes rfl ?_
    refine CC.goto ?_
    refine EE.thenG ?_
    (refine EE.jumpTo () rfl ?_ ⟨q, r4⟩; exact ⟨rfl, trivial⟩)
set_option maxRecDepth 100000 in
set_option maxHeartbeats 8000000 in
theorem read_long (v : Value) (ws : List Nat) (w : World) (hv : Reads w v (ints .u64 ws)) (hw : ∀ x ∈ ws, x < 18446744073709551616) (h64 : ¬ws.length < 64) (hlen : ws.length ≤ 1048576) (ok : Bool) (hok : ok = true ↔ rdOk ws) : Calls Try.prog 22 #[v] w fun x w' => x = .returned (.tuple (if ok then #[layV (wd ws 1) (wd ws 2) (wd ws 3) (wd ws 4) (wd ws 5) (wd ws 6) 9 (9 + (wd ws 2 : Int) / 4) (9 + (wd ws 2 : Int) / 4 + (wd ws 3 : Int) / 4) (10 + (wd ws 2 : Int) / 4 + (wd ws 3 : Int) / 4), .int .i64 0] else #[layV 0 0 0 0 0 0 0 0 0 0, .int .i64 230])) ∧ Below w.heap.size w w' := by
  have q := Below.refl w.heap.size w
  have hv0 := hv
  have hvh : ∀ w', Below w.heap.size w w' → Reads w' v (ints .u64 ws) := fun w' h => hv.below h
  obtain ⟨N, hN⟩ : ∃ N, ws.length = N := ⟨_, rfl⟩
  obtain ⟨a, cap, rfl, hcap, hcells⟩ := hv.intsN hN
  rw [hN] at h64 hlen
  obtain ⟨bk, off, rfl, hbk, hc⟩ := hcells (by omega)
  refine X.fn Try.func22 rfl (n := 76) rfl rfl ?_
  refine CC.seq ?_
  refine CC.region ?_
  refine LL.alloc ([Value.int IntKind.i64 0, Value.int IntKind.i64 0, Value.int IntKind.i64 0, Value.int IntKind.i64 0, Value.int IntKind.u64 0, Value.int IntKind.u64 0, Value.int IntKind.i64 0, Value.int IntKind.i64 0, Value.int IntKind.i64 0, Value.int IntKind.i64 0]) rfl rfl rfl rfl rfl ?_
  intro W2 g3 eg3 r4 z5 b1
  replace q := q.trans (b1.mono q.size)
  replace hv := hv.up b1
  replace hv0 := hv0.up b1
  refine LL.val (R.assign rfl rfl) rfl rfl rfl ?_
  refine LL.nilS ?_
  refine CC.fwd (l := 0) (α := Unit) (fun _ => []) (fun _ => [(2, .pointer (some ⟨g3, 0, none⟩))]) (fun _ W => Below w.heap.size w W ∧ ok = false ∧ RowL W g3 27 [.int .i64 0, .int .i64 0, .int .i64 0, .int .i64 0, .int .u64 0, .int .u64 0, .int .i64 0, .int .i64 0, .int .i64 0, .int .i64 0]) rfl ?first ?pass
  case pass =>
    rintro _ W ⟨q, hf, r4⟩
    rw [hf]
    refine CC.seq ?_
    refine CC.skip ?_
    refine EE.thenN ?_
    refine CC.seq ?_
    refine CC.region ?_
    refine LL.val (R.buildV rfl rfl (v := .agg #[Value.int IntKind.i64 0, Value.int IntKind.i64 0, Value.int IntKind.i64 0, Value.int IntKind.i64 0, Value.int IntKind.u64 0, Value.int IntKind.u64 0, Value.int IntKind.i64 0, Value.int IntKind.i64 0, Value.int IntKind.i64 0, Value.int IntKind.i64 0]) (fun _ => by kernel_rfl)) rfl rfl rfl ?_
    refine LL.storeN (vs := [Value.int IntKind.i64 0, Value.int IntKind.i64 0, Value.int IntKind.i64 0, Value.int IntKind.i64 0, Value.int IntKind.u64 0, Value.int IntKind.u64 0, Value.int IntKind.i64 0, Value.int IntKind.i64 0, Value.int IntKind.i64 0, Value.int IntKind.i64 0]) rfl rfl rfl rfl r4 (by exact Nat.le_of_ble_eq_true rfl) (ones_of rfl) rfl rfl ?_
    intro Wa2 ra3 ba1 za4
    have hlba1 := r4.lt
    replace ra3 : RowL Wa2 _ 27 [Value.int IntKind.i64 0, Value.int IntKind.i64 0, Value.int IntKind.i64 0, Value.int IntKind.i64 0, Value.int IntKind.u64 0, Value.int IntKind.u64 0, Value.int IntKind.i64 0, Value.int IntKind.i64 0, Value.int IntKind.i64 0, Value.int IntKind.i64 0] := ra3
    clear r4
    replace q := q.grown ba1 q.size (by rintro k ⟨⟩; omega)
    have r4 := ra3
    clear ra3
    refine LL.val (R.assign rfl rfl) rfl rfl rfl ?_
    refine LL.nilS ?_
    refine CC.ret ?_
    refine EE.jumpR ?_
    refine EE.ret2 rfl ⟨_, rfl, lvNc (RowL.cells0 (by assumption)) (by rfl) (by rfl)⟩ rfl ?_
    exact ⟨rfl, q⟩
  case first =>
    refine CC.seq ?_
    refine CC.region ?_
    have lb1 := r4.lt
    refine LL.alloc ([Value.int IntKind.i64 0, Value.int IntKind.i64 0, Value.int IntKind.i64 0, Value.int IntKind.i64 0, Value.int IntKind.u64 0, Value.int IntKind.u64 0, Value.int IntKind.i64 0, Value.int IntKind.i64 0, Value.int IntKind.i64 0, Value.int IntKind.i64 0]) rfl rfl rfl rfl rfl ?_
    intro Wb3 gb4 egb4 rb5 zb6 bb2
    replace r4 := r4.up bb2
    replace b1 := b1.trans (bb2.mono b1.size)
    replace q := q.trans (bb2.mono q.size)
    replace hv := hv.up bb2
    replace hv0 := hv0.up bb2
    refine LL.nilS ?_
    refine CC.seq ?_
    refine CC.region ?_
    refine LL.val (R.assign rfl rfl) rfl rfl rfl ?_
    refine LL.nilS ?_
    refine CC.seq ?_
    refine CC.region ?_
    refine LL.val (R.assign rfl rfl) rfl rfl rfl ?_
    refine LL.nilS ?_
    refine CC.seq ?_
    refine CC.seq ?_
    refine CC.region ?_
    refine LL.val (R.move rfl rfl) rfl rfl rfl ?_
    refine LL.val (R.len rfl rfl rfl rfl) rfl rfl rfl ?_
    refine LL.val (R.ltF rfl rfl rfl (by omega)) rfl rfl rfl ?_
    refine LL.nilS ?_
    refine CC.no rfl ?_
    refine CC.skip ?_
    refine EE.thenN ?_
    refine CC.seq ?_
    refine CC.seq ?_
    refine CC.region ?_
    refine LL.val (R.move rfl rfl) rfl rfl rfl ?_
    refine LL.val (R.slice rfl rfl rfl rfl rfl (I.slSc rfl rfl rfl (by omega) (by omega) (by omega))) rfl rfl rfl ?_
    refine LL.val (R.len rfl rfl rfl rfl) rfl rfl rfl ?_
    refine LL.val (R.move rfl rfl) rfl rfl rfl ?_
    refine LL.nilS ?_
    refine CC.block ?_
    have zB := q.size
    refine CC.loop (α := Nat × Value) (fun s => [(0, .slice (some ⟨bk, off, none⟩) N cap), (2, .pointer (some ⟨g3, 0, none⟩)), (4, .pointer (some ⟨gb4, 0, none⟩)), (5, s.2), (13, .slice (some ⟨bk, off + 1 * 1, none⟩) (7 - 1) (cap - 1)), (14, .int .i64 ((7 - 1 : Nat) : Int)), (15, .int .i64 (s.1 : Int))])
      (fun s wr => s.1 ≤ 6 ∧ Below Wb3.heap.size Wb3 wr ∧ wr.ownsRow Wb3.heap.size 24 1 s.2 s.1 (ints .u64 ((List.range s.1).map fun j => clip (wd ws (j + 1))))) (fun s => 6 - s.1)
      (0, .slice none 0 0) ⟨rfl, rfl, rfl, rfl, rfl, rfl, rfl, trivial⟩ ⟨by show 0 ≤ 6; omega, Below.refl _ _, World.ownsRow_nil _ _ _ _⟩ ?_
    rintro ⟨n, ov⟩ wr ⟨hn, hb, ho⟩
    simp only at hn ho
    show CC none Try.prog _ 76 [] (sl [(0, .slice (some ⟨bk, off, none⟩) N cap), (2, .pointer (some ⟨g3, 0, none⟩)), (4, .pointer (some ⟨gb4, 0, none⟩)), (5, ov), (13, .slice (some ⟨bk, off + 1 * 1, none⟩) (7 - 1) (cap - 1)), (14, .int .i64 ((7 - 1 : Nat) : Int)), (15, .int .i64 (n : Int))]) _ wr
    by_cases hlt : n < 6
    case pos =>
      have c1 : wr.cell? ⟨bk, off + 1 * 1 + n, none⟩ = some (.int .u64 (wd ws (n + 1) : Int)) := by
        have h := hc (n + 1) (by omega)
        have hbw : wr.heap[bk]? = w.heap[bk]? := (hb.block bk (by omega)).trans (q.block bk (by omega))
        rw [World.cell?_of_block hbw, show off + 1 * 1 + n = off + (n + 1) by omega]
        exact h
      refine CC.seq ?_
      refine CC.region ?_
      refine LL.val (R.ltT rfl rfl rfl (by omega)) rfl rfl rfl ?_
      refine LL.nilS ?_
      refine CC.seq ?_
      refine CC.yes rfl ?_
      refine CC.skip ?_
      refine EE.thenN ?_
      refine CC.seq ?_
      refine CC.block ?_
      refine CC.seq ?_
      refine CC.region ?_
      refine LL.val (R.index rfl rfl rfl (I.ixS1 rfl (by omega))) rfl rfl rfl ?_
      refine LL.val (R.load rfl rfl (I.ld1 rfl (by assumption))) rfl rfl rfl ?_
      refine LL.val (R.assign rfl rfl) rfl rfl rfl ?_
      refine LL.nilS ?_
      refine CC.region ?_
      refine LL.val (R.move rfl rfl) rfl rfl rfl ?_
      refine LL.val (R.move rfl rfl) rfl rfl rfl ?_
      refine LL.val (R.minE (x := (clip (wd ws (n + 1)) : Int)) rfl rfl (by unfold clip; (repeat' split) <;> omega)) rfl rfl rfl ?_
      refine LL.lit (e := 24) [Value.int IntKind.u64 ↑(clip (wd ws (n + 1)))] 1 rfl rfl (fun _ => by kernel_rfl) rfl rfl ?_
      intro Wc2 gc3 egc3 rc4 zc5 bc1
      replace hb := hb.trans (bc1.mono hb.size)
      replace c1 := cell_up c1 bc1
      have hcl : clip (wd ws (n + 1)) ≤ 2049 := by unfold clip; split <;> omega
      have zb := bc1.size
      have zb2 := hb.size
      refine LL.append (ys := ints .u64 [clip (wd ws (n + 1))]) rfl rfl El64 (owns_below ho bc1) (RowL.asInts rc4 .u64 [clip (wd ws (n + 1))] rfl rfl) (ints_one _ _) (by simp [maxLen]; omega) (by simp; omega) (by omega) rfl rfl ?_
      intro v' w' o1 g1
      have hb' := hb.trans (owns_bel (owns_below ho bc1) g1 (by omega))
      rw [← List.map_append] at o1
      refine LL.val (R.assign rfl rfl) rfl rfl rfl ?_
      refine LL.nil ?_
      refine EE.inN ?_
      refine EE.thenN ?_
      refine CC.region ?_
      refine LL.val (R.addNc rfl rfl rfl rfl (by omega)) rfl rfl rfl ?_
      refine LL.val (R.move rfl rfl) rfl rfl rfl ?_
      refine LL.nil ?_
      exact EE.round (n + 1, v') ⟨rfl, rfl, rfl, rfl, rfl, rfl, rfl, trivial⟩ ⟨by show n + 1 ≤ 6; omega, hb', by rw [List.range_succ, List.map_append]; exact o1⟩ (by show 6 - (n + 1) < 6 - n; omega)
    obtain rfl : n = 6 := by omega
    have hrd := reads_of_owns ho
    obtain ⟨a2, cap2, rfl, hcap2, hcells2⟩ := hrd.intsN (n := 6) (by simp)
    obtain ⟨b2, off2, rfl, hb2, hc2⟩ := hcells2 (by omega)
    have zW := hb.size
    have hb2l := ho.lt b2 rfl
    have c0 : wr.cell? ⟨b2, off2 + 0, none⟩ = some (.int .u64 (clip (wd ws 1) : Int)) := hc2 0 (by omega)
    have c1 : wr.cell? ⟨b2, off2 + 1, none⟩ = some (.int .u64 (clip (wd ws 2) : Int)) := hc2 1 (by omega)
    have c2 : wr.cell? ⟨b2, off2 + 2, none⟩ = some (.int .u64 (clip (wd ws 3) : Int)) := hc2 2 (by omega)
    have c3 : wr.cell? ⟨b2, off2 + 3, none⟩ = some (.int .u64 (clip (wd ws 4) : Int)) := hc2 3 (by omega)
    have hbw : wr.heap[bk]? = w.heap[bk]? := (hb.block bk (by omega)).trans (q.block bk (by omega))
    have c5 : wr.cell? ⟨bk, off + 5, none⟩ = some (.int .u64 (wd ws 5 : Int)) := by rw [World.cell?_of_block hbw]; exact hc 5 (by omega)
    have c6 : wr.cell? ⟨bk, off + 6, none⟩ = some (.int .u64 (wd ws 6 : Int)) := by rw [World.cell?_of_block hbw]; exact hc 6 (by omega)
    clear hc2 hcells2 hbw hcells hc
    replace r4 := r4.up hb
    replace rb5 := rb5.up hb
    replace q := q.trans (hb.mono q.size)
    have k1 := clip_le (wd ws 1)
    have k2 := clip_le (wd ws 2)
    have k3 := clip_le (wd ws 3)
    have k4 := clip_le (wd ws 4)
    clear hv
    have hv1 := hv0.up (Below.refl _ _)
    by_cases hof : okF (wd ws 1) (wd ws 2) (wd ws 3) (wd ws 4)
    case neg =>
      have hnf : notC ws := fun h => hof ((clip_ok _ _ _ _).1 h)
      have hfalse : ok = false := by
        cases ok with
        | false => rfl
        | true => exact absurd ((hok.1 rfl).2.1) hof
      clear hof hok
      refine CC.seq ?_
      refine CC.region ?_
      refine LL.val (R.ltF rfl rfl rfl (by omega)) rfl rfl rfl ?_
      refine LL.nilS ?_
      refine CC.seq ?_
      refine CC.no rfl ?_
      refine CC.exit ?_
      refine EE.thenX ?_
      refine EE.thenX ?_
      refine EE.inX ?_
      refine EE.thenN ?_
      refine CC.seq ?_
      have hok : Kept (fun j => j < wr.heap.size ∧ j ≠ gb4) wr wr.drew := bkept below_drew (fun j h => h.1)
      refine CC.free (fun W => Kept (fun j => j < wr.heap.size ∧ j ≠ gb4) wr W) (by kernel_rfl) (by kernel_rfl) ?_
      refine AA.pure 0 rfl hok (by kernel_rfl) (fun w' b' => R.move rfl rfl) rfl rfl ?_
      refine AA.pure 1 rfl hok (by kernel_rfl) (fun w' b' => R.index rfl rfl rfl (I.ixS1c rfl rfl (by omega))) rfl rfl ?_
      refine AA.pure 2 rfl hok (by kernel_rfl) (fun w' b' => R.load rfl rfl (I.ld1 rfl (cell_kept c0 b' (by refine ⟨?_, ?_⟩ <;> omega)))) rfl rfl ?_
      refine AA.pure 3 rfl hok (by kernel_rfl) (fun w' b' => R.convI rfl rfl rfl rfl (wrapI (by omega) (by omega))) rfl rfl ?_
      refine AA.pure 4 rfl hok (by kernel_rfl) (fun w' b' => R.move rfl rfl) rfl rfl ?_
      refine AA.pure 5 rfl hok (by kernel_rfl) (fun w' b' => R.index rfl rfl rfl (I.ixS1c rfl rfl (by omega))) rfl rfl ?_
      refine AA.pure 6 rfl hok (by kernel_rfl) (fun w' b' => R.load rfl rfl (I.ld1 rfl (cell_kept c1 b' (by refine ⟨?_, ?_⟩ <;> omega)))) rfl rfl ?_
      refine AA.pure 7 rfl hok (by kernel_rfl) (fun w' b' => R.convI rfl rfl rfl rfl (wrapI (by omega) (by omega))) rfl rfl ?_
      refine AA.pure 8 rfl hok (by kernel_rfl) (fun w' b' => R.move rfl rfl) rfl rfl ?_
      refine AA.pure 9 rfl hok (by kernel_rfl) (fun w' b' => R.index rfl rfl rfl (I.ixS1c rfl rfl (by omega))) rfl rfl ?_
      refine AA.pure 10 rfl hok (by kernel_rfl) (fun w' b' => R.load rfl rfl (I.ld1 rfl (cell_kept c2 b' (by refine ⟨?_, ?_⟩ <;> omega)))) rfl rfl ?_
      refine AA.pure 11 rfl hok (by kernel_rfl) (fun w' b' => R.convI rfl rfl rfl rfl (wrapI (by omega) (by omega))) rfl rfl ?_
      refine AA.pure 12 rfl hok (by kernel_rfl) (fun w' b' => R.move rfl rfl) rfl rfl ?_
      refine AA.pure 13 rfl hok (by kernel_rfl) (fun w' b' => R.index rfl rfl rfl (I.ixS1c rfl rfl (by omega))) rfl rfl ?_
      refine AA.pure 14 rfl hok (by kernel_rfl) (fun w' b' => R.load rfl rfl (I.ld1 rfl (cell_kept c3 b' (by refine ⟨?_, ?_⟩ <;> omega)))) rfl rfl ?_
      refine AA.pure 15 rfl hok (by kernel_rfl) (fun w' b' => R.convI rfl rfl rfl rfl (wrapI (by omega) (by omega))) rfl rfl ?_
      refine AA.pure 16 rfl hok (by kernel_rfl) (fun w' b' => R.buildV rfl rfl (v := .agg #[Value.int IntKind.i64 ↑(clip (wd ws 1)), Value.int IntKind.i64 ↑(clip (wd ws 2)), Value.int IntKind.i64 ↑(clip (wd ws 3)), Value.int IntKind.i64 ↑(clip (wd ws 4))]) (fun _ => by kernel_rfl)) rfl rfl ?_
      refine AA.pure 17 rfl hok (by kernel_rfl) (fun w' b' => R.move rfl rfl) rfl rfl ?_
      refine AA.pure 18 rfl hok (by kernel_rfl) (fun w' b' => R.index rfl rfl rfl (I.ixS1c rfl rfl (by omega))) rfl rfl ?_
      refine AA.pure 19 rfl hok (by kernel_rfl) (fun w' b' => R.load rfl rfl (I.ld1 rfl (cell_kept c5 b' (by refine ⟨?_, ?_⟩ <;> omega)))) rfl rfl ?_
      refine AA.pure 20 rfl hok (by kernel_rfl) (fun w' b' => R.move rfl rfl) rfl rfl ?_
      refine AA.pure 21 rfl hok (by kernel_rfl) (fun w' b' => R.index rfl rfl rfl (I.ixS1c rfl rfl (by omega))) rfl rfl ?_
      refine AA.pure 22 rfl hok (by kernel_rfl) (fun w' b' => R.load rfl rfl (I.ld1 rfl (cell_kept c6 b' (by refine ⟨?_, ?_⟩ <;> omega)))) rfl rfl ?_
      refine AA.pure 23 rfl hok (by kernel_rfl) (fun w' b' => R.buildV rfl rfl (v := .agg #[Value.int IntKind.u64 ↑(wd ws 5), Value.int IntKind.u64 ↑(wd ws 6)]) (fun _ => by kernel_rfl)) rfl rfl ?_
      refine AA.one 24 (by kernel_rfl) (SR.call rfl (R.call rfl rfl rfl) rfl rfl (of_F _ _ _ _ _ _ _ hnf) ?_)
      rintro e W ⟨rfl, bo⟩
      have hok1 : Kept (fun j => j < wr.heap.size ∧ j ≠ gb4) wr W := hok.trans (bkept bo (fun j h => h.1))
      refine ⟨_, rfl, hok1, ?_⟩
      replace hok := hok1
      clear hok1
      replace rb5 := (rb5.up below_drew).up bo
      replace r4 := (r4.up below_drew).up bo
      replace q := (q.trans (below_drew.mono q.size)).trans (bo.mono q.size)
      have zo := bo.size
      have zd : wr.drew.heap.size = wr.heap.size := rfl
      refine AA.pure 25 rfl hok (by kernel_rfl) (fun w' b' => R.move rfl rfl) rfl rfl ?_
      refine AA.pure 26 rfl hok (by kernel_rfl) (fun w' b' => R.extract rfl rfl rfl) rfl rfl ?_
      refine AA.pure 27 rfl hok (by kernel_rfl) (fun w' b' => R.extract rfl rfl rfl) rfl rfl ?_
      refine AA.one 28 (by kernel_rfl) (SR.storeN (vs := [.int .i64 0, .int .i64 0, .int .i64 0, .int .i64 0, .int .u64 0, .int .u64 0, .int .i64 0, .int .i64 0, .int .i64 0, .int .i64 0]) rfl rfl rfl rfl rfl rb5 (by exact Nat.le_of_ble_eq_true rfl) (ones_of rfl) rfl rfl ?_)
      intro W1 rr gr zz
      have hok1 := hok.trans (grown_kept (K := fun j => j < wr.heap.size ∧ j ≠ gb4) gr (fun j h => by have := h.1; omega) (fun j h e => by cases e; exact h.2 rfl))
      refine ⟨hok1, ?_⟩
      replace hok := hok1
      clear hok1
      replace r4 := r4.gr gr (by omega)
      replace q := q.grown gr q.size (by rintro k ⟨⟩; omega)
      refine AA.pure 29 rfl hok (by kernel_rfl) (fun w' b' => R.assign rfl rfl) rfl rfl ?_
      refine AA.done rfl ?_
      refine EE.thenN ?_
      refine CC.seq ?_
      refine CC.seq ?_
      refine CC.region ?_
      refine LL.val (R.move rfl rfl) rfl rfl rfl ?_
      refine LL.val (R.neT rfl rfl rfl (by omega)) rfl rfl rfl ?_
      refine LL.val (R.move rfl rfl) rfl rfl rfl ?_
      refine LL.skip rfl rfl ?_
      refine LL.skip rfl rfl ?_
      refine LL.skip rfl rfl ?_
      refine LL.skip rfl rfl ?_
      refine LL.skip rfl rfl ?_
      refine LL.skip rfl rfl ?_
      refine LL.skip rfl rfl ?_
      refine LL.val (R.pick rfl rfl rfl) rfl rfl rfl ?_
      refine LL.nilS ?_
      refine CC.yes rfl ?_
      refine CC.goto ?_
      refine EE.thenG ?_
      (refine EE.jumpTo () rfl ?_ ⟨q, hfalse, r4⟩; exact ⟨rfl, trivial⟩)
    have hiff := hok
    clear hok
    rw [clip_same (by omega)] at c0 c1 c2 c3
    clear k1 k2 k3 k4
    refine CC.seq ?_
    refine CC.region ?_
    refine LL.val (R.ltF rfl rfl rfl (by omega)) rfl rfl rfl ?_
    refine LL.nilS ?_
    refine CC.seq ?_
    refine CC.no rfl ?_
    refine CC.exit ?_
    refine EE.thenX ?_
    refine EE.thenX ?_
    refine EE.inX ?_
    refine EE.thenN ?_
    refine CC.seq ?_
    have hok : Kept (fun j => j < wr.heap.size ∧ j ≠ gb4) wr wr.drew := bkept below_drew (fun j h => h.1)
    refine CC.free (fun W => Kept (fun j => j < wr.heap.size ∧ j ≠ gb4) wr W) (by kernel_rfl) (by kernel_rfl) ?_
    refine AA.pure 0 rfl hok (by kernel_rfl) (fun w' b' => R.move rfl rfl) rfl rfl ?_
    refine AA.pure 1 rfl hok (by kernel_rfl) (fun w' b' => R.index rfl rfl rfl (I.ixS1c rfl rfl (by omega))) rfl rfl ?_
    refine AA.pure 2 rfl hok (by kernel_rfl) (fun w' b' => R.load rfl rfl (I.ld1 rfl (cell_kept c0 b' (by refine ⟨?_, ?_⟩ <;> omega)))) rfl rfl ?_
    refine AA.pure 3 rfl hok (by kernel_rfl) (fun w' b' => R.convI rfl rfl rfl rfl (wrapI (by omega) (by omega))) rfl rfl ?_
    refine AA.pure 4 rfl hok (by kernel_rfl) (fun w' b' => R.move rfl rfl) rfl rfl ?_
    refine AA.pure 5 rfl hok (by kernel_rfl) (fun w' b' => R.index rfl rfl rfl (I.ixS1c rfl rfl (by omega))) rfl rfl ?_
    refine AA.pure 6 rfl hok (by kernel_rfl) (fun w' b' => R.load rfl rfl (I.ld1 rfl (cell_kept c1 b' (by refine ⟨?_, ?_⟩ <;> omega)))) rfl rfl ?_
    refine AA.pure 7 rfl hok (by kernel_rfl) (fun w' b' => R.convI rfl rfl rfl rfl (wrapI (by omega) (by omega))) rfl rfl ?_
    refine AA.pure 8 rfl hok (by kernel_rfl) (fun w' b' => R.move rfl rfl) rfl rfl ?_
    refine AA.pure 9 rfl hok (by kernel_rfl) (fun w' b' => R.index rfl rfl rfl (I.ixS1c rfl rfl (by omega))) rfl rfl ?_
    refine AA.pure 10 rfl hok (by kernel_rfl) (fun w' b' => R.load rfl rfl (I.ld1 rfl (cell_kept c2 b' (by refine ⟨?_, ?_⟩ <;> omega)))) rfl rfl ?_
    refine AA.pure 11 rfl hok (by kernel_rfl) (fun w' b' => R.convI rfl rfl rfl rfl (wrapI (by omega) (by omega))) rfl rfl ?_
    refine AA.pure 12 rfl hok (by kernel_rfl) (fun w' b' => R.move rfl rfl) rfl rfl ?_
    refine AA.pure 13 rfl hok (by kernel_rfl) (fun w' b' => R.index rfl rfl rfl (I.ixS1c rfl rfl (by omega))) rfl rfl ?_
    refine AA.pure 14 rfl hok (by kernel_rfl) (fun w' b' => R.load rfl rfl (I.ld1 rfl (cell_kept c3 b' (by refine ⟨?_, ?_⟩ <;> omega)))) rfl rfl ?_
    refine AA.pure 15 rfl hok (by kernel_rfl) (fun w' b' => R.convI rfl rfl rfl rfl (wrapI (by omega) (by omega))) rfl rfl ?_
    refine AA.pure 16 rfl hok (by kernel_rfl) (fun w' b' => R.buildV rfl rfl (v := .agg #[Value.int IntKind.i64 ↑(wd ws 1), Value.int IntKind.i64 ↑(wd ws 2), Value.int IntKind.i64 ↑(wd ws 3), Value.int IntKind.i64 ↑(wd ws 4)]) (fun _ => by kernel_rfl)) rfl rfl ?_
    refine AA.pure 17 rfl hok (by kernel_rfl) (fun w' b' => R.move rfl rfl) rfl rfl ?_
    refine AA.pure 18 rfl hok (by kernel_rfl) (fun w' b' => R.index rfl rfl rfl (I.ixS1c rfl rfl (by omega))) rfl rfl ?_
    refine AA.pure 19 rfl hok (by kernel_rfl) (fun w' b' => R.load rfl rfl (I.ld1 rfl (cell_kept c5 b' (by refine ⟨?_, ?_⟩ <;> omega)))) rfl rfl ?_
    refine AA.pure 20 rfl hok (by kernel_rfl) (fun w' b' => R.move rfl rfl) rfl rfl ?_
    refine AA.pure 21 rfl hok (by kernel_rfl) (fun w' b' => R.index rfl rfl rfl (I.ixS1c rfl rfl (by omega))) rfl rfl ?_
    refine AA.pure 22 rfl hok (by kernel_rfl) (fun w' b' => R.load rfl rfl (I.ld1 rfl (cell_kept c6 b' (by refine ⟨?_, ?_⟩ <;> omega)))) rfl rfl ?_
    refine AA.pure 23 rfl hok (by kernel_rfl) (fun w' b' => R.buildV rfl rfl (v := .agg #[Value.int IntKind.u64 ↑(wd ws 5), Value.int IntKind.u64 ↑(wd ws 6)]) (fun _ => by kernel_rfl)) rfl rfl ?_
    refine AA.one 24 (by kernel_rfl) (SR.call rfl (R.call rfl rfl rfl) rfl rfl (of_T _ _ _ _ _ _ _ hof) ?_)
    rintro e W ⟨rfl, bo⟩
    have hok1 : Kept (fun j => j < wr.heap.size ∧ j ≠ gb4) wr W := hok.trans (bkept bo (fun j h => h.1))
    refine ⟨_, rfl, hok1, ?_⟩
    replace hok := hok1
    clear hok1
    replace rb5 := (rb5.up below_drew).up bo
    replace r4 := (r4.up below_drew).up bo
    replace q := (q.trans (below_drew.mono q.size)).trans (bo.mono q.size)
    have zo := bo.size
    have zd : wr.drew.heap.size = wr.heap.size := rfl
    refine AA.pure 25 rfl hok (by kernel_rfl) (fun w' b' => R.move rfl rfl) rfl rfl ?_
    refine AA.pure 26 rfl hok (by kernel_rfl) (fun w' b' => R.extract rfl rfl rfl) rfl rfl ?_
    refine AA.pure 27 rfl hok (by kernel_rfl) (fun w' b' => R.extract rfl rfl rfl) rfl rfl ?_
    refine AA.one 28 (by kernel_rfl) (SR.storeN (vs := [.int .i64 (wd ws 1 : Int), .int .i64 (wd ws 2 : Int), .int .i64 (wd ws 3 : Int), .int .i64 (wd ws 4 : Int), .int .u64 (wd ws 5 : Int), .int .u64 (wd ws 6 : Int), .int .i64 9, .int .i64 (9 + (wd ws 2 : Int) / 4), .int .i64 (9 + (wd ws 2 : Int) / 4 + (wd ws 3 : Int) / 4), .int .i64 (10 + (wd ws 2 : Int) / 4 + (wd ws 3 : Int) / 4)]) rfl rfl rfl rfl rfl rb5 (by exact Nat.le_of_ble_eq_true rfl) (ones_of rfl) rfl rfl ?_)
    intro W1 rr gr zz
    have hok1 := hok.trans (grown_kept (K := fun j => j < wr.heap.size ∧ j ≠ gb4) gr (fun j h => by have := h.1; omega) (fun j h e => by cases e; exact h.2 rfl))
    refine ⟨hok1, ?_⟩
    replace hok := hok1
    clear hok1
    replace r4 := r4.gr gr (by omega)
    replace q := q.grown gr q.size (by rintro k ⟨⟩; omega)
    replace rr : RowL W1 gb4 27 [.int .i64 (wd ws 1 : Int), .int .i64 (wd ws 2 : Int), .int .i64 (wd ws 3 : Int), .int .i64 (wd ws 4 : Int), .int .u64 (wd ws 5 : Int), .int .u64 (wd ws 6 : Int), .int .i64 9, .int .i64 (9 + (wd ws 2 : Int) / 4), .int .i64 (9 + (wd ws 2 : Int) / 4 + (wd ws 3 : Int) / 4), .int .i64 (10 + (wd ws 2 : Int) / 4 + (wd ws 3 : Int) / 4)] := rr
    by_cases hN64 : N = 64 * wd ws 1
    case neg =>
      have hfalse : ok = false := by
        cases ok with
        | false => rfl
        | true => exact absurd ((hiff.1 rfl).2.2.1) (by omega)
      refine AA.pure 29 rfl hok (by kernel_rfl) (fun w' b' => R.assign rfl rfl) rfl rfl ?_
      refine AA.done rfl ?_
      refine EE.thenN ?_
      refine CC.seq ?_
      refine CC.seq ?_
      refine CC.region ?_
      refine LL.val (R.move rfl rfl) rfl rfl rfl ?_
      refine LL.val (R.neF rfl rfl rfl (by omega)) rfl rfl rfl ?_
      refine LL.val (R.move rfl rfl) rfl rfl rfl ?_
      refine LL.val (R.move rfl rfl) rfl rfl rfl ?_
      refine LL.val (R.len rfl rfl rfl rfl) rfl rfl rfl ?_
      refine LL.val (R.field rfl rfl (I.fld rfl)) rfl rfl rfl ?_
      refine LL.val (R.field rfl rfl (I.fld rfl)) rfl rfl rfl ?_
      refine LL.val (R.load rfl rfl (I.ld1 rfl (RowL.cell rr rfl))) rfl rfl rfl ?_
      refine LL.val (R.mulNc rfl rfl rfl rfl (by omega)) rfl rfl rfl ?_
      refine LL.val (R.neT rfl rfl rfl (by omega)) rfl rfl rfl ?_
      refine LL.val (R.pick rfl rfl rfl) rfl rfl rfl ?_
      refine LL.nilS ?_
      refine CC.yes rfl ?_
      refine CC.goto ?_
      refine EE.thenG ?_
      (refine EE.jumpTo () rfl ?_ ⟨q, hfalse, r4⟩; exact ⟨rfl, trivial⟩)
    refine AA.pure 29 rfl hok (by kernel_rfl) (fun w' b' => R.assign rfl rfl) rfl rfl ?_
    refine AA.done rfl ?_
    refine EE.thenN ?_
    refine CC.seq ?_
    refine CC.seq ?_
    refine CC.region ?_
    refine LL.val (R.move rfl rfl) rfl rfl rfl ?_
    refine LL.val (R.neF rfl rfl rfl (by omega)) rfl rfl rfl ?_
    refine LL.val (R.move rfl rfl) rfl rfl rfl ?_
    refine LL.val (R.move rfl rfl) rfl rfl rfl ?_
    refine LL.val (R.len rfl rfl rfl rfl) rfl rfl rfl ?_
    refine LL.val (R.field rfl rfl (I.fld rfl)) rfl rfl rfl ?_
    refine LL.val (R.field rfl rfl (I.fld rfl)) rfl rfl rfl ?_
    refine LL.val (R.load rfl rfl (I.ld1 rfl (RowL.cell rr rfl))) rfl rfl rfl ?_
    refine LL.val (R.mulNc rfl rfl rfl rfl (by omega)) rfl rfl rfl ?_
    refine LL.val (R.neF rfl rfl rfl (by omega)) rfl rfl rfl ?_
    refine LL.val (R.pick rfl rfl rfl) rfl rfl rfl ?_
    refine LL.nilS ?_
    refine CC.no rfl ?_
    refine CC.skip ?_
    refine EE.thenN ?_
    refine CC.seq ?_
    refine CC.region ?_
    refine LL.val (R.load rfl rfl (I.ldNc (vs := [Value.int IntKind.i64 ↑(wd ws 1), Value.int IntKind.i64 ↑(wd ws 2), Value.int IntKind.i64 ↑(wd ws 3), Value.int IntKind.i64 ↑(wd ws 4), Value.int IntKind.u64 ↑(wd ws 5), Value.int IntKind.u64 ↑(wd ws 6), Value.int IntKind.i64 9, Value.int IntKind.i64 (9 + ↑(wd ws 2) / 4), Value.int IntKind.i64 (9 + ↑(wd ws 2) / 4 + ↑(wd ws 3) / 4), Value.int IntKind.i64 (10 + ↑(wd ws 2) / 4 + ↑(wd ws 3) / 4)]) (RowL.cells rr rfl) (by rfl) (by rfl))) rfl rfl rfl ?_
    have hl1 := supL_len (wd ws 1) (wd ws 2) (wd ws 3) (wd ws 4) (wd ws 5) (wd ws 6)
    refine LL.call (R.call rfl rfl rfl) rfl rfl rfl (super_any (wd ws 1) (wd ws 2) (wd ws 3) (wd ws 4) (wd ws 5) (wd ws 6) _ _ _ _ _ (by omega)) ?_
    rintro e2 W2' ⟨v, rfl, o, b1'⟩
    refine ⟨_, rfl, ?_⟩
    replace q := q.trans (b1'.mono q.size)
    replace r4 := r4.up b1'
    replace rr := rr.up b1'
    have h1 := reads_of_owns o
    clear o
    refine LL.val (R.move rfl rfl) rfl rfl rfl ?_
    refine LL.val (R.extract rfl rfl rfl) rfl rfl rfl ?_
    refine LL.val (R.extract rfl rfl rfl) rfl rfl rfl ?_
    refine LL.val (R.assign rfl rfl) rfl rfl rfl ?_
    refine LL.nilS ?_
    refine CC.seq ?_
    refine CC.seq ?_
    refine CC.region ?_
    refine LL.val (R.move rfl rfl) rfl rfl rfl ?_
    refine LL.val (R.move rfl rfl) rfl rfl rfl ?_
    refine LL.val (R.slice rfl rfl rfl rfl rfl (I.slToc rfl rfl (by omega))) rfl rfl rfl ?_
    have h2 : Reads W2' (.slice (some ⟨bk, off, none⟩) 64 cap) (ints .u64 (ws.take 64)) := by
      have := (hvh _ q).take 64 (by omega) cap (by omega)
      rwa [← List.map_take] at this
    by_cases heq : supL (wd ws 1) (wd ws 2) (wd ws 3) (wd ws 4) (wd ws 5) (wd ws 6) = ws.take 64
    · have htrue : ok = true := hiff.2 ⟨by omega, hof, by omega, heq.symm⟩
      refine LL.callBT (R.call rfl rfl rfl) rfl rfl rfl (weq_any _ _ _ _ _ h1 h2 (by omega) (by simp; omega)) heq (fun W3' b3 => ?_)
      replace q := q.trans (b3.mono q.size)
      replace r4 := r4.up b3
      replace rr := rr.up b3
      clear hof
      refine LL.val (R.not rfl rfl) rfl rfl rfl ?_
      refine LL.nilS ?_
      refine CC.no rfl ?_
      refine CC.skip ?_
      refine EE.thenN ?_
      refine CC.seq ?_
      refine CC.seq ?_
      refine CC.region ?_
      refine LL.val (R.load rfl rfl (I.ldNc (vs := [Value.int IntKind.i64 ↑(wd ws 1), Value.int IntKind.i64 ↑(wd ws 2), Value.int IntKind.i64 ↑(wd ws 3), Value.int IntKind.i64 ↑(wd ws 4), Value.int IntKind.u64 ↑(wd ws 5), Value.int IntKind.u64 ↑(wd ws 6), Value.int IntKind.i64 9, Value.int IntKind.i64 (9 + ↑(wd ws 2) / 4), Value.int IntKind.i64 (9 + ↑(wd ws 2) / 4 + ↑(wd ws 3) / 4), Value.int IntKind.i64 (10 + ↑(wd ws 2) / 4 + ↑(wd ws 3) / 4)]) (RowL.cells rr rfl) (by rfl) (by rfl))) rfl rfl rfl ?_
      refine LL.storeN (vs := [Value.int IntKind.i64 ↑(wd ws 1), Value.int IntKind.i64 ↑(wd ws 2), Value.int IntKind.i64 ↑(wd ws 3), Value.int IntKind.i64 ↑(wd ws 4), Value.int IntKind.u64 ↑(wd ws 5), Value.int IntKind.u64 ↑(wd ws 6), Value.int IntKind.i64 9, Value.int IntKind.i64 (9 + ↑(wd ws 2) / 4), Value.int IntKind.i64 (9 + ↑(wd ws 2) / 4 + ↑(wd ws 3) / 4), Value.int IntKind.i64 (10 + ↑(wd ws 2) / 4 + ↑(wd ws 3) / 4)]) rfl rfl rfl rfl r4 (by exact Nat.le_of_ble_eq_true rfl) (ones_of rfl) rfl rfl ?_
      intro Wo2 ro3 bo1 zo4
      have hlbo1 := r4.lt
      replace ro3 : RowL Wo2 _ 27 [Value.int IntKind.i64 ↑(wd ws 1), Value.int IntKind.i64 ↑(wd ws 2), Value.int IntKind.i64 ↑(wd ws 3), Value.int IntKind.i64 ↑(wd ws 4), Value.int IntKind.u64 ↑(wd ws 5), Value.int IntKind.u64 ↑(wd ws 6), Value.int IntKind.i64 9, Value.int IntKind.i64 (9 + ↑(wd ws 2) / 4), Value.int IntKind.i64 (9 + ↑(wd ws 2) / 4 + ↑(wd ws 3) / 4), Value.int IntKind.i64 (10 + ↑(wd ws 2) / 4 + ↑(wd ws 3) / 4)] := ro3
      clear r4
      replace q := q.grown bo1 q.size (by rintro k ⟨⟩; omega)
      replace rr := rr.gr bo1 (by have := rr.lt; omega)
      have r4 := ro3
      clear ro3
      refine LL.val (R.assign rfl rfl) rfl rfl rfl ?_
      refine LL.nilS ?_
      refine CC.ret ?_
      refine EE.thenR ?_
      refine EE.jumpR ?_
      refine EE.ret2 rfl ⟨_, rfl, lvNc (RowL.cells0 (by assumption)) (by rfl) (by rfl)⟩ rfl ?_
      exact ⟨by rw [if_pos htrue], q⟩
    · have hfalse : ok = false := by
        cases ok with
        | false => rfl
        | true => exact absurd ((hiff.1 rfl).2.2.2) (fun e => heq e.symm)
      refine LL.callBF (R.call rfl rfl rfl) rfl rfl rfl (weq_any _ _ _ _ _ h1 h2 (by omega) (by simp; omega)) heq (fun W3' b3 => ?_)
      replace q := q.trans (b3.mono q.size)
      replace r4 := r4.up b3
      clear hof
      refine LL.val (R.not rfl rfl) rfl rfl rfl ?_
      refine LL.nilS ?_
      refine CC.yes rfl ?_
      refine CC.goto ?_
      refine EE.thenG ?_
      (refine EE.jumpTo () rfl ?_ ⟨q, hfalse, r4⟩; exact ⟨rfl, trivial⟩)
end Go.Proofs.Ythdgnogpjpoklaa
