/- RecordReads: the walk. -/
import Derived.Test.YtefepklacchghaaRec6
namespace Go.Proofs.Ytefepklacchghaa
set_option linter.unusedVariables false
set_option linter.unusedSimpArgs false
open Go.RowKit Go.Shelf
set_option maxRecDepth 100000 in
set_option maxHeartbeats 8000000 in
theorem reads_many (v : Value) (ws : List Nat) (w : World) (hv : Reads w v (ints .u64 ws)) (h : 40 < ws.length) : Calls Try.prog 4 #[v] w fun x w' => x = .returned (.bool true) ∧ Below w.heap.size w w' := by
  have q := Below.refl w.heap.size w
  obtain ⟨N, hN⟩ : ∃ N, ws.length = N := ⟨_, rfl⟩
  obtain ⟨a, cap, rfl, hcap, _⟩ := hv.intsN hN
  clear hv
  refine X.fn Try.func4 rfl (n := 78) rfl rfl ?_
  refine CC.seq ?_
  refine CC.region ?_
  refine LL.val (R.assign rfl rfl) rfl rfl rfl ?_
  refine LL.nilS ?_
  refine CC.seq ?_
  refine CC.seq ?_
  refine CC.region ?_
  refine LL.val (R.move rfl rfl) rfl rfl rfl ?_
  refine LL.val (R.len rfl rfl rfl rfl) rfl rfl rfl ?_
  refine LL.val (R.gtT rfl rfl rfl (by omega)) rfl rfl rfl ?_
  refine LL.nilS ?_
  refine CC.yes rfl ?_
  refine CC.seq ?_
  refine CC.region ?_
  refine LL.call (R.call rfl rfl rfl) rfl rfl rfl (works_any _) ?_
  rintro e W2 ⟨rfl, b1⟩
  refine ⟨_, rfl, ?_⟩
  have zb1 := b1.size
  replace q := q.trans (b1.mono q.size)
  refine LL.val (R.assign rfl rfl) rfl rfl rfl ?_
  refine LL.nilS ?_
  refine CC.ret ?_
  refine EE.thenR ?_
  refine EE.ret _ rfl rfl ?_
  exact ⟨rfl, q⟩
set_option maxRecDepth 100000 in
set_option maxHeartbeats 8000000 in
theorem reads_few (v : Value) (ws : List Nat) (w : World) (hv : Reads w v (ints .u64 ws)) (hw : ∀ x ∈ ws, x < 18446744073709551616) (h : ws.length ≤ 40) : Calls Try.prog 4 #[v] w fun x w' => x = .returned (.bool true) ∧ Below w.heap.size w w' := by
  have q := Below.refl w.heap.size w
  have hvh : ∀ W, Below w.heap.size w W → Reads W v (ints .u64 ws) := fun W hb => hv.up hb
  obtain ⟨N, hN⟩ : ∃ N, ws.length = N := ⟨_, rfl⟩
  obtain ⟨a, cap, rfl, hcap, _⟩ := hv.intsN hN
  refine X.fn Try.func4 rfl (n := 78) rfl rfl ?_
  refine CC.seq ?_
  refine CC.region ?_
  refine LL.val (R.assign rfl rfl) rfl rfl rfl ?_
  refine LL.nilS ?_
  refine CC.seq ?_
  refine CC.seq ?_
  refine CC.region ?_
  refine LL.val (R.move rfl rfl) rfl rfl rfl ?_
  refine LL.val (R.len rfl rfl rfl rfl) rfl rfl rfl ?_
  refine LL.val (R.gtF rfl rfl rfl (by omega)) rfl rfl rfl ?_
  refine LL.nilS ?_
  refine CC.no rfl ?_
  refine CC.skip ?_
  refine EE.thenN ?_
  refine CC.seq ?_
  refine CC.region ?_
  refine LL.lit (e := 38) [] 0 rfl rfl (fun _ => by kernel_rfl) rfl rfl ?_
  intro W2 g3 eg3 r4 z5 b1
  replace q := q.trans (b1.mono q.size)
  replace hv := hv.up b1
  refine LL.val (R.move rfl rfl) rfl rfl rfl ?_
  refine LL.appendL rfl rfl El64 r4 (by first | assumption | exact OwnW.reads (by assumption)) (ints_one _ _) (by simp only [maxLen, List.length_map, List.length_cons, List.length_nil]; omega) (by simp only [maxLen, List.length_map, List.length_cons, List.length_nil]; omega) rfl rfl ?_
  have hlb9 := r4.lt
  intro v6 W7 o8 b9
  clear r4
  replace o8 := o8.low (show w.heap.size ≤ _ by omega)
  replace b1 := b1.grown b9 b1.size (by rintro k ⟨⟩; omega)
  replace q := q.grown b9 q.size (by rintro k ⟨⟩; omega)
  have zb9 := b9.size
  refine LL.lit (e := 38) [Value.int IntKind.u64 77] 1 rfl rfl (fun _ => by kernel_rfl) rfl rfl ?_
  intro W11 g12 eg12 r13 z14 b10
  replace o8 := o8.up b10
  replace b1 := b1.trans (b10.mono b1.size)
  replace q := q.trans (b10.mono q.size)
  have ho1 := o8
  simp only [List.nil_append, List.length_map, List.length_nil, Nat.zero_add, hN] at ho1
  refine LL.append (us := ints .u64 ws) (ys := ints .u64 [77]) rfl rfl El64 ho1 (RowL.asInts r13 .u64 [77] rfl rfl) (ints_one _ _) (by simp [maxLen]; omega) (by simp; omega) (by have := q.size; omega) rfl rfl ?_
  intro v3 W3 o3 g3'
  have hb3 := owns_bel ho1 g3' (by have := q.size; omega)
  have yq := q.size
  replace q := q.trans hb3
  have y3 := q.size
  rw [show ints .u64 ws ++ ints .u64 [77] = ints .u64 (ws ++ [77]) by simp [ints]] at o3
  have ho3 : W3.ownsRow w.heap.size 38 1 v3 (N + 1) (ints .u64 (ws ++ [77])) := o3
  obtain ⟨gv, cv, rfl, hgv, lgv, hcv⟩ := owns_at ho3 (by omega)
  have hRv := reads_of_owns ho3
  obtain ⟨_, _, e3, _, hcl⟩ := hRv.intsN (n := N + 1) (by simp [hN])
  obtain ⟨_, _, e4, _, hcl⟩ := hcl (by omega)
  simp only [Value.slice.injEq, true_and] at e3
  rw [← e3.1] at e4
  simp only [Option.some.injEq, Addr.mk.injEq, and_true] at e4
  obtain ⟨rfl, rfl⟩ := e4
  have c1 : W3.cell? ⟨gv, 0 + N, none⟩ = some (.int .u64 77) := by
    have := hcl N (by omega)
    rw [show (ws ++ [77])[N]? = some 77 by rw [← hN]; simp] at this
    exact this
  have hV := hRv.take N (by omega) cv (by omega)
  rw [show (ints .u64 (ws ++ [77])).take N = ints .u64 ws by simp only [ints]; rw [← List.map_take, ← hN, List.take_left']; rfl] at hV
  clear e3 hcl hRv ho3 o3 g3' hb3 ho1 o8 r13 b10 b9 b1 hv
  by_cases hex : ∃ (n : Nat) (l : Bs), okR n l ∧ ws = recW n l
  case pos =>
    obtain ⟨n, l, ho, he⟩ := hex
    refine LL.val (R.move rfl rfl) rfl rfl rfl ?_
    refine LL.val (R.len rfl rfl rfl rfl) rfl rfl rfl ?_
    refine LL.val (R.slice rfl rfl rfl rfl rfl (I.slTo rfl (by omega))) rfl rfl rfl ?_
    refine LL.val (R.assign rfl rfl) rfl rfl rfl ?_
    refine LL.nilS ?_
    refine CC.seq ?_
    refine CC.region ?_
    refine LL.val (R.move rfl rfl) rfl rfl rfl ?_
    refine LL.call (R.call rfl rfl rfl) rfl rfl rfl (of_T _ ws n l _ hV ho he) ?_
    rintro e W4 ⟨rfl, b2⟩
    refine ⟨_, rfl, ?_⟩
    have y4 := b2.size
    replace q := q.trans (b2.mono q.size)
    replace hV := hV.up b2
    replace c1 := cell_up c1 b2
    clear b2
    refine LL.val (R.move rfl rfl) rfl rfl rfl ?_
    refine LL.val (R.extract rfl rfl rfl) rfl rfl rfl ?_
    refine LL.val (R.extract rfl rfl rfl) rfl rfl rfl ?_
    refine LL.alloc ([Value.int IntKind.i64 0, Value.string { data := { toList := [] } }]) rfl rfl rfl rfl rfl ?_
    intro Wb2 gb3 egb3 rb4 zb5 bb1
    replace q := q.trans (bb1.mono q.size)
    replace hV := hV.up bb1
    replace c1 := cell_up c1 bb1
    refine LL.storeN (vs := [Value.int IntKind.i64 ↑n, strV l]) rfl rfl rfl rfl rb4 (by exact Nat.le_of_ble_eq_true rfl) (ones_of rfl) rfl rfl ?_
    intro Wb7 rb8 bb6 zb9
    have hlbb6 := rb4.lt
    replace rb8 : RowL Wb7 _ 23 [Value.int IntKind.i64 ↑n, strV l] := rb8
    clear rb4
    replace bb1 := bb1.grown bb6 bb1.size (by rintro k ⟨⟩; omega)
    replace q := q.grown bb6 q.size (by rintro k ⟨⟩; omega)
    replace hV := hV.gr bb6 (by omega)
    replace c1 := cell_gr c1 bb6 (by omega)
    have rb4 := rb8
    clear rb8
    refine LL.val (R.assign rfl rfl) rfl rfl rfl ?_
    refine LL.nilS ?_
    refine CC.seq ?_
    refine CC.region ?_
    refine LL.val (R.move rfl rfl) rfl rfl rfl ?_
    refine LL.call (R.call rfl rfl rfl) rfl rfl rfl (rof_T _ ws n l _ (hvh _ q) ho he) ?_
    rintro e W5 ⟨rfl, b2⟩
    refine ⟨_, rfl, ?_⟩
    have y5 := b2.size
    replace q := q.trans (b2.mono q.size)
    replace hV := hV.up b2
    replace c1 := cell_up c1 b2
    replace rb4 := rb4.up b2
    have y6 := q.size
    clear b2
    refine LL.val (R.move rfl rfl) rfl rfl rfl ?_
    refine LL.val (R.extract rfl rfl rfl) rfl rfl rfl ?_
    refine LL.val (R.extract rfl rfl rfl) rfl rfl rfl ?_
    have lc1 := rb4.lt
    refine LL.alloc ([Value.int IntKind.i64 0, Value.string { data := { toList := [] } }]) rfl rfl rfl rfl rfl ?_
    intro Wc3 gc4 egc4 rc5 zc6 bc2
    replace q := q.trans (bc2.mono q.size)
    replace hV := hV.up bc2
    replace c1 := cell_up c1 bc2
    replace rb4 := rb4.up bc2
    refine LL.storeN (vs := [Value.int IntKind.i64 ↑n, strV l]) rfl rfl rfl rfl rc5 (by exact Nat.le_of_ble_eq_true rfl) (ones_of rfl) rfl rfl ?_
    intro Wc8 rc9 bc7 zc10
    have hlbc7 := rc5.lt
    replace rc9 : RowL Wc8 _ 23 [Value.int IntKind.i64 ↑n, strV l] := rc9
    clear rc5
    replace bc2 := bc2.grown bc7 bc2.size (by rintro k ⟨⟩; omega)
    replace q := q.grown bc7 q.size (by rintro k ⟨⟩; omega)
    replace hV := hV.gr bc7 (by omega)
    replace c1 := cell_gr c1 bc7 (by omega)
    replace rb4 := rb4.gr bc7 (by have := rb4.lt; omega)
    have rc5 := rc9
    clear rc9
    refine LL.val (R.assign rfl rfl) rfl rfl rfl ?_
    refine LL.nilS ?_
    refine CC.seq ?_
    refine CC.seq ?_
    refine CC.region ?_
    refine LL.val (R.load rfl rfl (I.ldNc (vs := [Value.int IntKind.i64 ↑n, strV l]) (RowL.cells rb4 rfl) (by rfl) (by rfl))) rfl rfl rfl ?_
    refine LL.val (R.load rfl rfl (I.ldNc (vs := [Value.int IntKind.i64 ↑n, strV l]) (RowL.cells rc5 rfl) (by rfl) (by rfl))) rfl rfl rfl ?_
    refine LL.val (R.neST (p := (↑n : Int) = ↑n ∧ ({ data := List.toArray l } : ByteArray).toList = ({ data := List.toArray l } : ByteArray).toList) (bs := [decide ((↑n : Int) = ↑n), ({ data := List.toArray l } : ByteArray).toList == ({ data := List.toArray l } : ByteArray).toList]) rfl rfl rfl rfl (by kernel_rfl) (by kernel_rfl) (by simp) (by first | assumption | omega | exact ⟨rfl, rfl⟩ | exact fun h => h ⟨rfl, rfl⟩)) rfl rfl rfl ?_
    refine LL.val (R.move rfl rfl) rfl rfl rfl ?_
    refine LL.val (R.move rfl rfl) rfl rfl rfl ?_
    refine LL.call (R.call rfl rfl rfl) rfl rfl rfl (num_any _ _) ?_
    rintro e W' ⟨rfl, rfl⟩
    refine ⟨_, rfl, ?_⟩
    refine LL.val (R.move rfl rfl) rfl rfl rfl ?_
    refine LL.val (R.neF rfl rfl rfl (by omega)) rfl rfl rfl ?_
    refine LL.val (R.pick rfl rfl rfl) rfl rfl rfl ?_
    refine LL.val (R.move rfl rfl) rfl rfl rfl ?_
    refine LL.val (R.move rfl rfl) rfl rfl rfl ?_
    refine LL.val (R.move rfl rfl) rfl rfl rfl ?_
    refine LL.callBT (R.call rfl rfl rfl) rfl rfl rfl (wsame_any _ _ _ _ _ hV (hvh _ q) (by omega) (by omega)) rfl (fun W6 b3 => ?_)
    replace q := q.trans (b3.mono q.size)
    replace c1 := cell_up c1 b3
    replace hV := hV.up b3
    replace rb4 := rb4.up b3
    have y7 := q.size
    clear b3
    refine LL.val (R.not rfl rfl) rfl rfl rfl ?_
    refine LL.val (R.pick rfl rfl rfl) rfl rfl rfl ?_
    refine LL.val (R.move rfl rfl) rfl rfl rfl ?_
    refine LL.val (R.move rfl rfl) rfl rfl rfl ?_
    refine LL.val (R.move rfl rfl) rfl rfl rfl ?_
    refine LL.val (R.len rfl rfl rfl rfl) rfl rfl rfl ?_
    refine LL.val (R.addNc rfl rfl rfl rfl (by omega)) rfl rfl rfl ?_
    refine LL.val (R.slice rfl rfl rfl rfl rfl (I.slTo rfl (by omega))) rfl rfl rfl ?_
    refine LL.val (R.move rfl rfl) rfl rfl rfl ?_
    refine LL.val (R.len rfl rfl rfl rfl) rfl rfl rfl ?_
    refine LL.val (R.index rfl rfl rfl (I.ixS1 rfl (by omega))) rfl rfl rfl ?_
    refine LL.val (R.load rfl rfl (I.ld1 rfl (by assumption))) rfl rfl rfl ?_
    refine LL.val (R.neF rfl rfl rfl (by omega)) rfl rfl rfl ?_
    refine LL.val (R.pick rfl rfl rfl) rfl rfl rfl ?_
    refine LL.nilS ?_
    refine CC.no rfl ?_
    refine CC.skip ?_
    refine EE.thenN ?_
    refine CC.seq ?_
    refine CC.seq ?_
    refine CC.region ?_
    refine LL.val (R.move rfl rfl) rfl rfl rfl ?_
    refine LL.val (R.neF rfl rfl rfl (by omega)) rfl rfl rfl ?_
    refine LL.nilS ?_
    refine CC.no rfl ?_
    refine CC.skip ?_
    refine EE.thenN ?_
    refine CC.seq ?_
    refine CC.region ?_
    refine LL.val (R.load rfl rfl (I.ldNc (vs := [Value.int IntKind.i64 ↑n, strV l]) (RowL.cells rb4 rfl) (by rfl) (by rfl))) rfl rfl rfl ?_
    refine LL.call (R.call rfl rfl rfl) rfl rfl rfl (words_T n l _ ho) ?_
    rintro e W8 ⟨v2, rfl, o2, b2⟩
    refine ⟨_, rfl, ?_⟩
    replace q := q.trans (b2.mono q.size)
    have hr2 := reads_of_owns o2
    have y8 := q.size
    clear b2 o2
    refine LL.val (R.move rfl rfl) rfl rfl rfl ?_
    refine LL.val (R.extract rfl rfl rfl) rfl rfl rfl ?_
    refine LL.val (R.extract rfl rfl rfl) rfl rfl rfl ?_
    refine LL.val (R.assign rfl rfl) rfl rfl rfl ?_
    refine LL.val (R.assign rfl rfl) rfl rfl rfl ?_
    refine LL.nilS ?_
    refine CC.seq ?_
    refine CC.region ?_
    refine LL.val (R.move rfl rfl) rfl rfl rfl ?_
    refine LL.call (R.call rfl rfl rfl) rfl rfl rfl (num_any _ _) ?_
    rintro e W' ⟨rfl, rfl⟩
    refine ⟨_, rfl, ?_⟩
    refine LL.val (R.eqT rfl rfl rfl (by omega)) rfl rfl rfl ?_
    refine LL.val (R.move rfl rfl) rfl rfl rfl ?_
    refine LL.val (R.move rfl rfl) rfl rfl rfl ?_
    refine LL.val (R.move rfl rfl) rfl rfl rfl ?_
    refine LL.callBT (R.call rfl rfl rfl) rfl rfl rfl (wsame_any _ _ _ _ _ hr2 (hvh _ q) (by rw [← he]; omega) (by omega)) he.symm (fun W9 b3 => ?_)
    replace q := q.trans (b3.mono q.size)
    refine LL.val (R.pick rfl rfl rfl) rfl rfl rfl ?_
    refine LL.val (R.move rfl rfl) rfl rfl rfl ?_
    refine LL.call (R.call rfl rfl rfl) rfl rfl rfl (works_any _) ?_
    rintro e Wf2 ⟨rfl, bf1⟩
    refine ⟨_, rfl, ?_⟩
    have zbf1 := bf1.size
    replace b3 := b3.trans (bf1.mono b3.size)
    replace q := q.trans (bf1.mono q.size)
    refine LL.val (R.pick rfl rfl rfl) rfl rfl rfl ?_
    refine LL.val (R.assign rfl rfl) rfl rfl rfl ?_
    refine LL.nilS ?_
    refine CC.ret ?_
    refine EE.ret _ rfl rfl ?_
    exact ⟨rfl, q⟩
  case neg =>
    have hno : noRec ws := fun n l ho he => hex ⟨n, l, ho, he.symm⟩
    clear hex
    refine LL.val (R.move rfl rfl) rfl rfl rfl ?_
    refine LL.val (R.len rfl rfl rfl rfl) rfl rfl rfl ?_
    refine LL.val (R.slice rfl rfl rfl rfl rfl (I.slTo rfl (by omega))) rfl rfl rfl ?_
    refine LL.val (R.assign rfl rfl) rfl rfl rfl ?_
    refine LL.nilS ?_
    refine CC.seq ?_
    refine CC.region ?_
    refine LL.val (R.move rfl rfl) rfl rfl rfl ?_
    refine LL.call (R.call rfl rfl rfl) rfl rfl rfl (of_F _ ws _ hV hw (by omega) hno) ?_
    rintro e W4 ⟨rfl, b2⟩
    refine ⟨_, rfl, ?_⟩
    have y4 := b2.size
    replace q := q.trans (b2.mono q.size)
    replace hV := hV.up b2
    replace c1 := cell_up c1 b2
    clear b2
    refine LL.val (R.move rfl rfl) rfl rfl rfl ?_
    refine LL.val (R.extract rfl rfl rfl) rfl rfl rfl ?_
    refine LL.val (R.extract rfl rfl rfl) rfl rfl rfl ?_
    refine LL.alloc ([Value.int IntKind.i64 0, Value.string { data := { toList := [] } }]) rfl rfl rfl rfl rfl ?_
    intro Wh2 gh3 egh3 rh4 zh5 bh1
    replace q := q.trans (bh1.mono q.size)
    replace hV := hV.up bh1
    replace c1 := cell_up c1 bh1
    refine LL.storeN (vs := [Value.int IntKind.i64 0, strV []]) rfl rfl rfl rfl rh4 (by exact Nat.le_of_ble_eq_true rfl) (ones_of rfl) rfl rfl ?_
    intro Wh7 rh8 bh6 zh9
    have hlbh6 := rh4.lt
    replace rh8 : RowL Wh7 _ 23 [Value.int IntKind.i64 0, strV []] := rh8
    clear rh4
    replace bh1 := bh1.grown bh6 bh1.size (by rintro k ⟨⟩; omega)
    replace q := q.grown bh6 q.size (by rintro k ⟨⟩; omega)
    replace hV := hV.gr bh6 (by omega)
    replace c1 := cell_gr c1 bh6 (by omega)
    have rh4 := rh8
    clear rh8
    refine LL.val (R.assign rfl rfl) rfl rfl rfl ?_
    refine LL.nilS ?_
    refine CC.seq ?_
    refine CC.region ?_
    refine LL.val (R.move rfl rfl) rfl rfl rfl ?_
    refine LL.call (R.call rfl rfl rfl) rfl rfl rfl (rof_F _ ws _ (hvh _ q) hw (by omega) hno) ?_
    rintro e W5 ⟨rfl, b2⟩
    refine ⟨_, rfl, ?_⟩
    have y5 := b2.size
    replace q := q.trans (b2.mono q.size)
    replace hV := hV.up b2
    replace c1 := cell_up c1 b2
    replace rh4 := rh4.up b2
    have y6 := q.size
    clear b2
    refine LL.val (R.move rfl rfl) rfl rfl rfl ?_
    refine LL.val (R.extract rfl rfl rfl) rfl rfl rfl ?_
    refine LL.val (R.extract rfl rfl rfl) rfl rfl rfl ?_
    have li1 := rh4.lt
    refine LL.alloc ([Value.int IntKind.i64 0, Value.string { data := { toList := [] } }]) rfl rfl rfl rfl rfl ?_
    intro Wi3 gi4 egi4 ri5 zi6 bi2
    replace q := q.trans (bi2.mono q.size)
    replace hV := hV.up bi2
    replace c1 := cell_up c1 bi2
    replace rh4 := rh4.up bi2
    refine LL.storeN (vs := [Value.int IntKind.i64 0, strV []]) rfl rfl rfl rfl ri5 (by exact Nat.le_of_ble_eq_true rfl) (ones_of rfl) rfl rfl ?_
    intro Wi8 ri9 bi7 zi10
    have hlbi7 := ri5.lt
    replace ri9 : RowL Wi8 _ 23 [Value.int IntKind.i64 0, strV []] := ri9
    clear ri5
    replace bi2 := bi2.grown bi7 bi2.size (by rintro k ⟨⟩; omega)
    replace q := q.grown bi7 q.size (by rintro k ⟨⟩; omega)
    replace hV := hV.gr bi7 (by omega)
    replace c1 := cell_gr c1 bi7 (by omega)
    replace rh4 := rh4.gr bi7 (by have := rh4.lt; omega)
    have ri5 := ri9
    clear ri9
    refine LL.val (R.assign rfl rfl) rfl rfl rfl ?_
    refine LL.nilS ?_
    refine CC.seq ?_
    refine CC.seq ?_
    refine CC.region ?_
    refine LL.val (R.load rfl rfl (I.ldNc (vs := [Value.int IntKind.i64 0, strV []]) (RowL.cells rh4 rfl) (by rfl) (by rfl))) rfl rfl rfl ?_
    refine LL.val (R.load rfl rfl (I.ldNc (vs := [Value.int IntKind.i64 0, strV []]) (RowL.cells ri5 rfl) (by rfl) (by rfl))) rfl rfl rfl ?_
    refine LL.val (R.neST (p := (0 : Int) = 0 ∧ ({ data := #[] } : ByteArray).toList = ({ data := #[] } : ByteArray).toList) (bs := [decide ((0 : Int) = 0), ({ data := #[] } : ByteArray).toList == ({ data := #[] } : ByteArray).toList]) rfl rfl rfl rfl (by kernel_rfl) (by kernel_rfl) (by simp) (by first | assumption | omega | exact ⟨rfl, rfl⟩ | exact fun h => h ⟨rfl, rfl⟩)) rfl rfl rfl ?_
    refine LL.val (R.move rfl rfl) rfl rfl rfl ?_
    refine LL.val (R.move rfl rfl) rfl rfl rfl ?_
    refine LL.call (R.call rfl rfl rfl) rfl rfl rfl (num_any _ _) ?_
    rintro e W' ⟨rfl, rfl⟩
    refine ⟨_, rfl, ?_⟩
    refine LL.val (R.move rfl rfl) rfl rfl rfl ?_
    refine LL.val (R.neF rfl rfl rfl (by omega)) rfl rfl rfl ?_
    refine LL.val (R.pick rfl rfl rfl) rfl rfl rfl ?_
    refine LL.val (R.move rfl rfl) rfl rfl rfl ?_
    refine LL.val (R.move rfl rfl) rfl rfl rfl ?_
    refine LL.val (R.move rfl rfl) rfl rfl rfl ?_
    refine LL.callBT (R.call rfl rfl rfl) rfl rfl rfl (wsame_any _ _ _ _ _ hV (hvh _ q) (by omega) (by omega)) rfl (fun W6 b3 => ?_)
    replace q := q.trans (b3.mono q.size)
    replace c1 := cell_up c1 b3
    replace hV := hV.up b3
    replace rh4 := rh4.up b3
    have y7 := q.size
    clear b3
    refine LL.val (R.not rfl rfl) rfl rfl rfl ?_
    refine LL.val (R.pick rfl rfl rfl) rfl rfl rfl ?_
    refine LL.val (R.move rfl rfl) rfl rfl rfl ?_
    refine LL.val (R.move rfl rfl) rfl rfl rfl ?_
    refine LL.val (R.move rfl rfl) rfl rfl rfl ?_
    refine LL.val (R.len rfl rfl rfl rfl) rfl rfl rfl ?_
    refine LL.val (R.addNc rfl rfl rfl rfl (by omega)) rfl rfl rfl ?_
    refine LL.val (R.slice rfl rfl rfl rfl rfl (I.slTo rfl (by omega))) rfl rfl rfl ?_
    refine LL.val (R.move rfl rfl) rfl rfl rfl ?_
    refine LL.val (R.len rfl rfl rfl rfl) rfl rfl rfl ?_
    refine LL.val (R.index rfl rfl rfl (I.ixS1 rfl (by omega))) rfl rfl rfl ?_
    refine LL.val (R.load rfl rfl (I.ld1 rfl (by assumption))) rfl rfl rfl ?_
    refine LL.val (R.neF rfl rfl rfl (by omega)) rfl rfl rfl ?_
    refine LL.val (R.pick rfl rfl rfl) rfl rfl rfl ?_
    refine LL.nilS ?_
    refine CC.no rfl ?_
    refine CC.skip ?_
    refine EE.thenN ?_
    refine CC.seq ?_
    refine CC.seq ?_
    refine CC.region ?_
    refine LL.val (R.move rfl rfl) rfl rfl rfl ?_
    refine LL.val (R.neT rfl rfl rfl (by omega)) rfl rfl rfl ?_
    refine LL.nilS ?_
    refine CC.yes rfl ?_
    refine CC.seq ?_
    refine CC.region ?_
    refine LL.call (R.call rfl rfl rfl) rfl rfl rfl (works_any _) ?_
    rintro e Wj2 ⟨rfl, bj1⟩
    refine ⟨_, rfl, ?_⟩
    have zbj1 := bj1.size
    replace q := q.trans (bj1.mono q.size)
    replace c1 := cell_up c1 bj1
    replace hV := hV.up bj1
    replace rh4 := rh4.up bj1
    refine LL.val (R.assign rfl rfl) rfl rfl rfl ?_
    refine LL.nilS ?_
    refine CC.ret ?_
    refine EE.thenR ?_
    refine EE.ret _ rfl rfl ?_
    exact ⟨rfl, q⟩
theorem reads_walk (v : Value) (ws : List Nat) (w : World) (hv : Reads w v (ints .u64 ws)) (hw : ∀ x ∈ ws, x < 18446744073709551616) : Calls Try.prog 4 #[v] w fun x w' => x = .returned (.bool true) ∧ Below w.heap.size w w' := by
  by_cases h : 40 < ws.length
  · exact reads_many v ws w hv h
  · exact reads_few v ws w hv hw (by omega)
end Go.Proofs.Ytefepklacchghaa
