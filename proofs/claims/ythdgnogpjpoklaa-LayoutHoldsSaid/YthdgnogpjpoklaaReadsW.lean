/- LayoutReads: the walk. -/
import Derived.Test.YthdgnogpjpoklaaDevM
import Derived.Test.YthdgnogpjpoklaaLay8
namespace Go.Proofs.Ythdgnogpjpoklaa
set_option linter.unusedVariables false
set_option linter.unusedSimpArgs false
open Go.RowKit Go.Shelf
theorem read_F (v : Value) (ws : List Nat) (w : World) (hv : Reads w v (ints .u64 ws)) (hw : ∀ x ∈ ws, x < 18446744073709551616) (hlen : ws.length ≤ 1048576) (h : notR ws) : Calls Try.prog 22 #[v] w fun x w' => x = .returned rdN ∧ Below w.heap.size w w' := by
  by_cases h64 : ws.length < 64
  · exact read_short v ws w hv h64
  · have := read_long v ws w hv hw h64 hlen false ⟨fun h => (by cases h), fun h' => absurd h' h⟩
    exact this
theorem read_T (v : Value) (ws : List Nat) (w : World) (hv : Reads w v (ints .u64 ws)) (hw : ∀ x ∈ ws, x < 18446744073709551616) (hlen : ws.length ≤ 1048576) (h : rdOk ws) : Calls Try.prog 22 #[v] w fun x w' => x = .returned (rdT (wd ws 1) (wd ws 2) (wd ws 3) (wd ws 4) (wd ws 5) (wd ws 6)) ∧ Below w.heap.size w w' := by
  have := read_long v ws w hv hw (by have := h.1; omega) hlen true ⟨fun _ => h, fun _ => rfl⟩
  exact this
theorem rread_F (v : Value) (ws : List Nat) (w : World) (hv : Reads w v (ints .u64 ws)) (hw : ∀ x ∈ ws, x < 18446744073709551616) (hlen : ws.length ≤ 1048576) (h : notR ws) : Calls Try.prog 23 #[v] w fun x w' => x = .returned rdN ∧ Below w.heap.size w w' := by
  by_cases h64 : ws.length < 64
  · exact rread_short v ws w hv h64
  · have := rread_long v ws w hv hw h64 hlen false ⟨fun h => (by cases h), fun h' => absurd h' h⟩
    exact this
theorem rread_T (v : Value) (ws : List Nat) (w : World) (hv : Reads w v (ints .u64 ws)) (hw : ∀ x ∈ ws, x < 18446744073709551616) (hlen : ws.length ≤ 1048576) (h : rdOk ws) : Calls Try.prog 23 #[v] w fun x w' => x = .returned (rdT (wd ws 1) (wd ws 2) (wd ws 3) (wd ws 4) (wd ws 5) (wd ws 6)) ∧ Below w.heap.size w w' := by
  have := rread_long v ws w hv hw (by have := h.1; omega) hlen true ⟨fun _ => h, fun _ => rfl⟩
  exact this
theorem notR_few {ws : List Nat} (h : ws.length ≤ 100) : notR ws := by
  rintro ⟨h1, h2, h3, _⟩
  omega
theorem devL_all {b i r t k1 k2 n at' by' : Nat} (hb : b < 18446744073709551616 ∧ i < 18446744073709551616 ∧ r < 18446744073709551616 ∧ t < 18446744073709551616 ∧ k1 < 18446744073709551616 ∧ k2 < 18446744073709551616) (hby : by' < 18446744073709551616) : ∀ x ∈ devL b i r t k1 k2 n at' by', x < 18446744073709551616 := by
  intro x hx
  rcases List.mem_or_eq_of_mem_set hx with h | h
  · rcases List.mem_append.1 h with h | h
    · obtain ⟨j, hj⟩ := List.mem_iff_getElem?.1 h
      have := supL_lt hb j
      rw [hj] at this
      exact this
    · have := (List.mem_replicate.1 h).2
      omega
  · rw [h]
    exact Nat.xor_lt_two_pow (n := 64) (supL_lt hb _) hby
set_option maxRecDepth 100000 in
set_option maxHeartbeats 8000000 in
theorem reads_many (b i r t : Int) (k1 k2 : Nat) (more at' : Int) (by' : Nat) (v : Value) (ws : List Nat) (w : World) (hv : Reads w v (ints .u64 ws)) (h : 100 < ws.length) : Calls Try.prog 5 #[formV b i r t, keyV k1 k2, .agg #[.int .i64 more, .int .i64 at'], .int .u64 (by' : Int), v] w fun x w' => x = .returned (.bool true) ∧ Below w.heap.size w w' := by
  have q := Below.refl w.heap.size w
  obtain ⟨N, hN⟩ : ∃ N, ws.length = N := ⟨_, rfl⟩
  obtain ⟨a, cap, rfl, hcap, _⟩ := hv.intsN hN
  refine X.fn Try.func5 rfl (n := 78) rfl rfl ?_
  refine CC.seq ?_
  refine CC.region ?_
  refine LL.box [Value.int IntKind.i64 b, Value.int IntKind.i64 i, Value.int IntKind.i64 r, Value.int IntKind.i64 t] rfl rfl rfl rfl rfl ?_
  intro W2 g3 eg3 r4 z5 b1
  replace q := q.trans (b1.mono q.size)
  replace hv := hv.up b1
  have l6 := r4.lt
  refine LL.box [Value.int IntKind.u64 ↑k1, Value.int IntKind.u64 ↑k2] rfl rfl rfl rfl rfl ?_
  intro W8 g9 eg9 r10 z11 b7
  replace r4 := r4.up b7
  replace b1 := b1.trans (b7.mono b1.size)
  replace q := q.trans (b7.mono q.size)
  replace hv := hv.up b7
  have l12 := r10.lt
  have l13 := r4.lt
  refine LL.box [Value.int IntKind.i64 more, Value.int IntKind.i64 at'] rfl rfl rfl rfl rfl ?_
  intro W15 g16 eg16 r17 z18 b14
  replace r10 := r10.up b14
  replace b7 := b7.trans (b14.mono b7.size)
  replace r4 := r4.up b14
  replace b1 := b1.trans (b14.mono b1.size)
  replace q := q.trans (b14.mono q.size)
  replace hv := hv.up b14
  refine LL.val (R.assign rfl rfl) rfl rfl rfl ?_
  refine LL.nilS ?_
  refine CC.seq ?_
  refine CC.seq ?_
  refine CC.region ?_
  refine LL.val (R.move rfl rfl) rfl rfl rfl ?_
  refine LL.val (R.len rfl rfl rfl rfl) rfl rfl rfl ?_
  refine LL.val (R.gtT rfl rfl rfl (by omega)) rfl rfl rfl ?_
  refine LL.nilS ?_
  refine CC.yes rfl ?_
  refine CC.seq ?_
  refine CC.region ?_
  refine LL.call (R.call rfl rfl rfl) rfl rfl rfl (works_any _) ?_
  rintro e W20 ⟨rfl, b19⟩
  refine ⟨_, rfl, ?_⟩
  have zb19 := b19.size
  replace r17 := r17.up b19
  replace b14 := b14.trans (b19.mono b14.size)
  replace r10 := r10.up b19
  replace b7 := b7.trans (b19.mono b7.size)
  replace r4 := r4.up b19
  replace b1 := b1.trans (b19.mono b1.size)
  replace q := q.trans (b19.mono q.size)
  replace hv := hv.up b19
  refine LL.val (R.assign rfl rfl) rfl rfl rfl ?_
  refine LL.nilS ?_
  refine CC.ret ?_
  refine EE.thenR ?_
  refine EE.ret _ rfl rfl ?_
  exact ⟨rfl, q⟩
--C law13_device | hdev @w | ⟨rfl, @b⟩
set_option maxRecDepth 100000 in
set_option maxHeartbeats 8000000 in
theorem reads_bad (b i r t : Int) (k1 k2 : Nat) (more at' : Int) (by' : Nat) (v : Value) (ws : List Nat) (w : World) (hv : Reads w v (ints .u64 ws)) (hw : ∀ x ∈ ws, x < 18446744073709551616) (h : ws.length ≤ 100)
    (hdev : ∀ W, Calls Try.prog 24 #[formV b i r t, keyV k1 k2, .int .i64 more, .int .i64 at', .int .u64 (by' : Int)] W fun x w' => x = .returned noDev ∧ Below W.heap.size W w') : Calls Try.prog 5 #[formV b i r t, keyV k1 k2, .agg #[.int .i64 more, .int .i64 at'], .int .u64 (by' : Int), v] w fun x w' => x = .returned (.bool true) ∧ Below w.heap.size w w' := by
  have q := Below.refl w.heap.size w
  have hvh : ∀ W, Below w.heap.size w W → Reads W v (ints .u64 ws) := fun W hb => hv.up hb
  obtain ⟨N, hN⟩ : ∃ N, ws.length = N := ⟨_, rfl⟩
  obtain ⟨a, cap, rfl, hcap, _⟩ := hv.intsN hN
  have hnr := notR_few h
  refine X.fn Try.func5 rfl (n := 78) rfl rfl ?_
  refine CC.seq ?_
  refine CC.region ?_
  refine LL.box [Value.int IntKind.i64 b, Value.int IntKind.i64 i, Value.int IntKind.i64 r, Value.int IntKind.i64 t] rfl rfl rfl rfl rfl ?_
  intro W2 g3 eg3 r4 z5 b1
  replace q := q.trans (b1.mono q.size)
  replace hv := hv.up b1
  have l6 := r4.lt
  refine LL.box [Value.int IntKind.u64 ↑k1, Value.int IntKind.u64 ↑k2] rfl rfl rfl rfl rfl ?_
  intro W8 g9 eg9 r10 z11 b7
  replace r4 := r4.up b7
  replace b1 := b1.trans (b7.mono b1.size)
  replace q := q.trans (b7.mono q.size)
  replace hv := hv.up b7
  have l12 := r10.lt
  have l13 := r4.lt
  refine LL.box [Value.int IntKind.i64 more, Value.int IntKind.i64 at'] rfl rfl rfl rfl rfl ?_
  intro W15 g16 eg16 r17 z18 b14
  replace r10 := r10.up b14
  replace b7 := b7.trans (b14.mono b7.size)
  replace r4 := r4.up b14
  replace b1 := b1.trans (b14.mono b1.size)
  replace q := q.trans (b14.mono q.size)
  replace hv := hv.up b14
  refine LL.val (R.assign rfl rfl) rfl rfl rfl ?_
  refine LL.nilS ?_
  refine CC.seq ?_
  refine CC.seq ?_
  refine CC.region ?_
  refine LL.val (R.move rfl rfl) rfl rfl rfl ?_
  refine LL.val (R.len rfl rfl rfl rfl) rfl rfl rfl ?_
  refine LL.val (R.gtF rfl rfl rfl (by omega)) rfl rfl rfl ?_
  refine LL.nilS ?_
  refine CC.no rfl ?_
  refine CC.skip ?_
  refine EE.thenN ?_
  refine CC.seq ?_
  refine CC.region ?_
  have l19 := r17.lt
  have l20 := r10.lt
  have l21 := r4.lt
  refine LL.lit (e := 24) [] 0 rfl rfl (fun _ => by kernel_rfl) rfl rfl ?_
  intro W23 g24 eg24 r25 z26 b22
  replace r17 := r17.up b22
  replace b14 := b14.trans (b22.mono b14.size)
  replace r10 := r10.up b22
  replace b7 := b7.trans (b22.mono b7.size)
  replace r4 := r4.up b22
  replace b1 := b1.trans (b22.mono b1.size)
  replace q := q.trans (b22.mono q.size)
  replace hv := hv.up b22
  refine LL.val (R.move rfl rfl) rfl rfl rfl ?_
  have o := RowL.owns (base := W15.heap.size) r25 (by omega) (by simp)
  refine LL.append (us := []) (ys := ints .u64 ws) rfl rfl El64 o hv (ints_one _ _) (by simp [maxLen]; omega) (by simp; omega) (by omega) rfl rfl ?_
  intro v' W1 o1 g1
  have hb1 := owns_bel o g1 (by omega)
  have yq := q.size
  replace q := q.trans (hb1.mono (by omega))
  replace r4 := r4.below hb1 (by omega)
  replace r10 := r10.below hb1 (by omega)
  replace r17 := r17.below hb1 (by omega)
  have h1 := reads_of_owns o1
  rw [List.nil_append] at h1
  clear o o1 g1 hb1 b1 b7 b14 b22 r25 hv
  refine LL.call (R.call rfl rfl rfl) rfl rfl rfl (read_F v' ws _ h1 hw (by omega) hnr) ?_
  rintro e W3 ⟨rfl, b2⟩
  refine ⟨_, rfl, ?_⟩
  replace q := q.trans (b2.mono q.size)
  replace r4 := r4.up b2
  replace r10 := r10.up b2
  replace r17 := r17.up b2
  clear h1 b2
  refine LL.val (R.move rfl rfl) rfl rfl rfl ?_
  refine LL.val (R.extract rfl rfl rfl) rfl rfl rfl ?_
  refine LL.val (R.extract rfl rfl rfl) rfl rfl rfl ?_
  have la1 := r4.lt
  have la2 := r10.lt
  have la3 := r17.lt
  refine LL.alloc ([Value.int IntKind.i64 0, Value.int IntKind.i64 0, Value.int IntKind.i64 0, Value.int IntKind.i64 0, Value.int IntKind.u64 0, Value.int IntKind.u64 0, Value.int IntKind.i64 0, Value.int IntKind.i64 0, Value.int IntKind.i64 0, Value.int IntKind.i64 0]) rfl rfl rfl rfl rfl ?_
  intro Wa5 ga6 ega6 ra7 za8 ba4
  replace q := q.trans (ba4.mono q.size)
  replace r4 := r4.up ba4
  replace r10 := r10.up ba4
  replace r17 := r17.up ba4
  refine LL.storeN (vs := [Value.int IntKind.i64 0, Value.int IntKind.i64 0, Value.int IntKind.i64 0, Value.int IntKind.i64 0, Value.int IntKind.u64 ↑0, Value.int IntKind.u64 ↑0, Value.int IntKind.i64 0, Value.int IntKind.i64 0, Value.int IntKind.i64 0, Value.int IntKind.i64 0]) rfl rfl rfl rfl ra7 (by exact Nat.le_of_ble_eq_true rfl) (ones_of rfl) rfl rfl ?_
  intro Wa10 ra11 ba9 za12
  have hlba9 := ra7.lt
  replace ra11 : RowL Wa10 _ 27 [Value.int IntKind.i64 0, Value.int IntKind.i64 0, Value.int IntKind.i64 0, Value.int IntKind.i64 0, Value.int IntKind.u64 ↑0, Value.int IntKind.u64 ↑0, Value.int IntKind.i64 0, Value.int IntKind.i64 0, Value.int IntKind.i64 0, Value.int IntKind.i64 0] := ra11
  clear ra7
  replace ba4 := ba4.grown ba9 ba4.size (by rintro k ⟨⟩; omega)
  replace q := q.grown ba9 q.size (by rintro k ⟨⟩; omega)
  replace r4 := r4.gr ba9 (by have := r4.lt; omega)
  replace r10 := r10.gr ba9 (by have := r10.lt; omega)
  replace r17 := r17.gr ba9 (by have := r17.lt; omega)
  have ra7 := ra11
  clear ra11
  refine LL.val (R.assign rfl rfl) rfl rfl rfl ?_
  refine LL.nilS ?_
  refine CC.seq ?_
  refine CC.region ?_
  refine LL.val (R.move rfl rfl) rfl rfl rfl ?_
  refine LL.call (R.call rfl rfl rfl) rfl rfl rfl (rread_F _ ws _ (hvh _ q) hw (by omega) hnr) ?_
  rintro e W4 ⟨rfl, b2⟩
  refine ⟨_, rfl, ?_⟩
  replace q := q.trans (b2.mono q.size)
  replace r4 := r4.up b2
  replace r10 := r10.up b2
  replace r17 := r17.up b2
  replace ra7 := ra7.up b2
  clear b2 ba4 ba9
  refine LL.val (R.move rfl rfl) rfl rfl rfl ?_
  refine LL.val (R.extract rfl rfl rfl) rfl rfl rfl ?_
  refine LL.val (R.extract rfl rfl rfl) rfl rfl rfl ?_
  have lb1 := r4.lt
  have lb2 := r10.lt
  have lb3 := r17.lt
  have lb4 := ra7.lt
  refine LL.alloc ([Value.int IntKind.i64 0, Value.int IntKind.i64 0, Value.int IntKind.i64 0, Value.int IntKind.i64 0, Value.int IntKind.u64 0, Value.int IntKind.u64 0, Value.int IntKind.i64 0, Value.int IntKind.i64 0, Value.int IntKind.i64 0, Value.int IntKind.i64 0]) rfl rfl rfl rfl rfl ?_
  intro Wb6 gb7 egb7 rb8 zb9 bb5
  replace q := q.trans (bb5.mono q.size)
  replace r4 := r4.up bb5
  replace r10 := r10.up bb5
  replace r17 := r17.up bb5
  replace ra7 := ra7.up bb5
  refine LL.storeN (vs := [Value.int IntKind.i64 0, Value.int IntKind.i64 0, Value.int IntKind.i64 0, Value.int IntKind.i64 0, Value.int IntKind.u64 ↑0, Value.int IntKind.u64 ↑0, Value.int IntKind.i64 0, Value.int IntKind.i64 0, Value.int IntKind.i64 0, Value.int IntKind.i64 0]) rfl rfl rfl rfl rb8 (by exact Nat.le_of_ble_eq_true rfl) (ones_of rfl) rfl rfl ?_
  intro Wb11 rb12 bb10 zb13
  have hlbb10 := rb8.lt
  replace rb12 : RowL Wb11 _ 27 [Value.int IntKind.i64 0, Value.int IntKind.i64 0, Value.int IntKind.i64 0, Value.int IntKind.i64 0, Value.int IntKind.u64 ↑0, Value.int IntKind.u64 ↑0, Value.int IntKind.i64 0, Value.int IntKind.i64 0, Value.int IntKind.i64 0, Value.int IntKind.i64 0] := rb12
  clear rb8
  replace bb5 := bb5.grown bb10 bb5.size (by rintro k ⟨⟩; omega)
  replace q := q.grown bb10 q.size (by rintro k ⟨⟩; omega)
  replace r4 := r4.gr bb10 (by have := r4.lt; omega)
  replace r10 := r10.gr bb10 (by have := r10.lt; omega)
  replace r17 := r17.gr bb10 (by have := r17.lt; omega)
  replace ra7 := ra7.gr bb10 (by have := ra7.lt; omega)
  have rb8 := rb12
  clear rb12
  refine LL.val (R.assign rfl rfl) rfl rfl rfl ?_
  refine LL.nilS ?_
  refine CC.seq ?_
  refine CC.seq ?_
  refine CC.region ?_
  refine LL.val (R.load rfl rfl (I.ldNc (vs := [Value.int IntKind.i64 0, Value.int IntKind.i64 0, Value.int IntKind.i64 0, Value.int IntKind.i64 0, Value.int IntKind.u64 0, Value.int IntKind.u64 0, Value.int IntKind.i64 0, Value.int IntKind.i64 0, Value.int IntKind.i64 0, Value.int IntKind.i64 0]) (RowL.cells ra7 rfl) (by rfl) (by rfl))) rfl rfl rfl ?_
  refine LL.val (R.load rfl rfl (I.ldNc (vs := [Value.int IntKind.i64 0, Value.int IntKind.i64 0, Value.int IntKind.i64 0, Value.int IntKind.i64 0, Value.int IntKind.u64 0, Value.int IntKind.u64 0, Value.int IntKind.i64 0, Value.int IntKind.i64 0, Value.int IntKind.i64 0, Value.int IntKind.i64 0]) (RowL.cells rb8 rfl) (by rfl) (by rfl))) rfl rfl rfl ?_
  refine LL.val (R.neST (p := (0 : Int) = 0 ∧ (0 : Int) = 0 ∧ (0 : Int) = 0 ∧ (0 : Int) = 0 ∧ (0 : Int) = 0 ∧ (0 : Int) = 0 ∧ (0 : Int) = 0 ∧ (0 : Int) = 0 ∧ (0 : Int) = 0 ∧ (0 : Int) = 0) (bs := [decide ((0 : Int) = 0), decide ((0 : Int) = 0), decide ((0 : Int) = 0), decide ((0 : Int) = 0), decide ((0 : Int) = 0), decide ((0 : Int) = 0), decide ((0 : Int) = 0), decide ((0 : Int) = 0), decide ((0 : Int) = 0), decide ((0 : Int) = 0)]) rfl rfl rfl rfl (by kernel_rfl) (by kernel_rfl) (by simp) (by first | assumption | omega)) rfl rfl rfl ?_
  refine LL.val (R.move rfl rfl) rfl rfl rfl ?_
  refine LL.val (R.move rfl rfl) rfl rfl rfl ?_
  refine LL.call (R.call rfl rfl rfl) rfl rfl rfl (num_any _ _) ?_
  rintro e W' ⟨rfl, rfl⟩
  refine ⟨_, rfl, ?_⟩
  refine LL.val (R.move rfl rfl) rfl rfl rfl ?_
  refine LL.val (R.neF rfl rfl rfl (by omega)) rfl rfl rfl ?_
  refine LL.val (R.pick rfl rfl rfl) rfl rfl rfl ?_
  refine LL.nilS ?_
  refine CC.no rfl ?_
  refine CC.skip ?_
  refine EE.thenN ?_
  refine CC.seq ?_
  refine CC.region ?_
  refine LL.val (R.load rfl rfl (I.ldNc (vs := [Value.int IntKind.i64 b, Value.int IntKind.i64 i, Value.int IntKind.i64 r, Value.int IntKind.i64 t]) (RowL.cells r4 rfl) (by rfl) (by rfl))) rfl rfl rfl ?_
  refine LL.val (R.load rfl rfl (I.ldNc (vs := [Value.int IntKind.u64 ↑k1, Value.int IntKind.u64 ↑k2]) (RowL.cells r10 rfl) (by rfl) (by rfl))) rfl rfl rfl ?_
  refine LL.val (R.index rfl rfl rfl (I.ixA1c rfl rfl (by first | omega | decide))) rfl rfl rfl ?_
  refine LL.val (R.load rfl rfl (I.ld1 rfl (RowL.cell r17 rfl))) rfl rfl rfl ?_
  refine LL.val (R.index rfl rfl rfl (I.ixA1c rfl rfl (by first | omega | decide))) rfl rfl rfl ?_
  refine LL.val (R.load rfl rfl (I.ld1 rfl (RowL.cell r17 rfl))) rfl rfl rfl ?_
  refine LL.val (R.move rfl rfl) rfl rfl rfl ?_
  refine LL.call (R.call rfl rfl rfl) rfl rfl rfl (hdev _) ?_
  rintro e Wb15 ⟨rfl, bb14⟩
  refine ⟨_, rfl, ?_⟩
  have zbb14 := bb14.size
  replace bb5 := bb5.trans (bb14.mono bb5.size)
  replace q := q.trans (bb14.mono q.size)
  replace r4 := r4.up bb14
  replace r10 := r10.up bb14
  replace r17 := r17.up bb14
  replace ra7 := ra7.up bb14
  replace rb8 := rb8.up bb14
  refine LL.val (R.move rfl rfl) rfl rfl rfl ?_
  refine LL.val (R.extract rfl rfl rfl) rfl rfl rfl ?_
  refine LL.val (R.extract rfl rfl rfl) rfl rfl rfl ?_
  refine LL.val (R.assign rfl rfl) rfl rfl rfl ?_
  refine LL.val (R.assign rfl rfl) rfl rfl rfl ?_
  refine LL.nilS ?_
  refine CC.seq ?_
  refine CC.seq ?_
  refine CC.region ?_
  refine LL.val (R.move rfl rfl) rfl rfl rfl ?_
  refine LL.val (R.not rfl rfl) rfl rfl rfl ?_
  refine LL.nilS ?_
  refine CC.yes rfl ?_
  refine CC.seq ?_
  refine CC.region ?_
  refine LL.call (R.call rfl rfl rfl) rfl rfl rfl (works_any _) ?_
  rintro e Wb17 ⟨rfl, bb16⟩
  refine ⟨_, rfl, ?_⟩
  have zbb16 := bb16.size
  replace bb14 := bb14.trans (bb16.mono bb14.size)
  replace bb5 := bb5.trans (bb16.mono bb5.size)
  replace q := q.trans (bb16.mono q.size)
  replace r4 := r4.up bb16
  replace r10 := r10.up bb16
  replace r17 := r17.up bb16
  replace ra7 := ra7.up bb16
  replace rb8 := rb8.up bb16
  refine LL.val (R.assign rfl rfl) rfl rfl rfl ?_
  refine LL.nilS ?_
  refine CC.ret ?_
  refine EE.thenR ?_
  refine EE.ret _ rfl rfl ?_
  exact ⟨rfl, q⟩
set_option maxRecDepth 100000 in
set_option maxHeartbeats 8000000 in
theorem reads_good (b i r t : Nat) (k1 k2 : Nat) (n : Nat) (at' : Nat) (more : Int) (by' : Nat) (v : Value) (ws : List Nat) (w : World) (hv : Reads w v (ints .u64 ws)) (hw : ∀ x ∈ ws, x < 18446744073709551616) (h : ws.length ≤ 100)
    (hk : k1 < 18446744073709551616 ∧ k2 < 18446744073709551616 ∧ by' < 18446744073709551616) (hok : okF b i r t) (hb : b ≤ 64) (hm : -1 ≤ more ∧ more ≤ 1) (hat : at' ≤ 63) (hn : (64 * b + more : Int) = n) : Calls Try.prog 5 #[formV b i r t, keyV k1 k2, .agg #[.int .i64 more, .int .i64 at'], .int .u64 (by' : Int), v] w fun x w' => x = .returned (.bool true) ∧ Below w.heap.size w w' := by
  have q := Below.refl w.heap.size w
  have hvh : ∀ W, Below w.heap.size w W → Reads W v (ints .u64 ws) := fun W hb => hv.up hb
  obtain ⟨N, hN⟩ : ∃ N, ws.length = N := ⟨_, rfl⟩
  obtain ⟨a, cap, rfl, hcap, _⟩ := hv.intsN hN
  have hnr := notR_few h
  refine X.fn Try.func5 rfl (n := 78) rfl rfl ?_
  refine CC.seq ?_
  refine CC.region ?_
  refine LL.box [Value.int IntKind.i64 ↑b, Value.int IntKind.i64 ↑i, Value.int IntKind.i64 ↑r, Value.int IntKind.i64 ↑t] rfl rfl rfl rfl rfl ?_
  intro W2 g3 eg3 r4 z5 b1
  replace q := q.trans (b1.mono q.size)
  replace hv := hv.up b1
  have l6 := r4.lt
  refine LL.box [Value.int IntKind.u64 ↑k1, Value.int IntKind.u64 ↑k2] rfl rfl rfl rfl rfl ?_
  intro W8 g9 eg9 r10 z11 b7
  replace r4 := r4.up b7
  replace b1 := b1.trans (b7.mono b1.size)
  replace q := q.trans (b7.mono q.size)
  replace hv := hv.up b7
  have l12 := r10.lt
  have l13 := r4.lt
  refine LL.box [Value.int IntKind.i64 more, Value.int IntKind.i64 ↑at'] rfl rfl rfl rfl rfl ?_
  intro W15 g16 eg16 r17 z18 b14
  replace r10 := r10.up b14
  replace b7 := b7.trans (b14.mono b7.size)
  replace r4 := r4.up b14
  replace b1 := b1.trans (b14.mono b1.size)
  replace q := q.trans (b14.mono q.size)
  replace hv := hv.up b14
  refine LL.val (R.assign rfl rfl) rfl rfl rfl ?_
  refine LL.nilS ?_
  refine CC.seq ?_
  refine CC.seq ?_
  refine CC.region ?_
  refine LL.val (R.move rfl rfl) rfl rfl rfl ?_
  refine LL.val (R.len rfl rfl rfl rfl) rfl rfl rfl ?_
  refine LL.val (R.gtF rfl rfl rfl (by omega)) rfl rfl rfl ?_
  refine LL.nilS ?_
  refine CC.no rfl ?_
  refine CC.skip ?_
  refine EE.thenN ?_
  refine CC.seq ?_
  refine CC.region ?_
  have l19 := r17.lt
  have l20 := r10.lt
  have l21 := r4.lt
  refine LL.lit (e := 24) [] 0 rfl rfl (fun _ => by kernel_rfl) rfl rfl ?_
  intro W23 g24 eg24 r25 z26 b22
  replace r17 := r17.up b22
  replace b14 := b14.trans (b22.mono b14.size)
  replace r10 := r10.up b22
  replace b7 := b7.trans (b22.mono b7.size)
  replace r4 := r4.up b22
  replace b1 := b1.trans (b22.mono b1.size)
  replace q := q.trans (b22.mono q.size)
  replace hv := hv.up b22
  refine LL.val (R.move rfl rfl) rfl rfl rfl ?_
  have o := RowL.owns (base := W15.heap.size) r25 (by omega) (by simp)
  refine LL.append (us := []) (ys := ints .u64 ws) rfl rfl El64 o hv (ints_one _ _) (by simp [maxLen]; omega) (by simp; omega) (by omega) rfl rfl ?_
  intro v' W1 o1 g1
  have hb1 := owns_bel o g1 (by omega)
  have yq := q.size
  replace q := q.trans (hb1.mono (by omega))
  replace r4 := r4.below hb1 (by omega)
  replace r10 := r10.below hb1 (by omega)
  replace r17 := r17.below hb1 (by omega)
  have h1 := reads_of_owns o1
  rw [List.nil_append] at h1
  clear o o1 g1 hb1 b1 b7 b14 b22 r25 hv
  refine LL.call (R.call rfl rfl rfl) rfl rfl rfl (read_F v' ws _ h1 hw (by omega) hnr) ?_
  rintro e W3 ⟨rfl, b2⟩
  refine ⟨_, rfl, ?_⟩
  replace q := q.trans (b2.mono q.size)
  replace r4 := r4.up b2
  replace r10 := r10.up b2
  replace r17 := r17.up b2
  clear h1 b2
  refine LL.val (R.move rfl rfl) rfl rfl rfl ?_
  refine LL.val (R.extract rfl rfl rfl) rfl rfl rfl ?_
  refine LL.val (R.extract rfl rfl rfl) rfl rfl rfl ?_
  have la1 := r4.lt
  have la2 := r10.lt
  have la3 := r17.lt
  refine LL.alloc ([Value.int IntKind.i64 0, Value.int IntKind.i64 0, Value.int IntKind.i64 0, Value.int IntKind.i64 0, Value.int IntKind.u64 0, Value.int IntKind.u64 0, Value.int IntKind.i64 0, Value.int IntKind.i64 0, Value.int IntKind.i64 0, Value.int IntKind.i64 0]) rfl rfl rfl rfl rfl ?_
  intro Wa5 ga6 ega6 ra7 za8 ba4
  replace q := q.trans (ba4.mono q.size)
  replace r4 := r4.up ba4
  replace r10 := r10.up ba4
  replace r17 := r17.up ba4
  refine LL.storeN (vs := [Value.int IntKind.i64 0, Value.int IntKind.i64 0, Value.int IntKind.i64 0, Value.int IntKind.i64 0, Value.int IntKind.u64 ↑0, Value.int IntKind.u64 ↑0, Value.int IntKind.i64 0, Value.int IntKind.i64 0, Value.int IntKind.i64 0, Value.int IntKind.i64 0]) rfl rfl rfl rfl ra7 (by exact Nat.le_of_ble_eq_true rfl) (ones_of rfl) rfl rfl ?_
  intro Wa10 ra11 ba9 za12
  have hlba9 := ra7.lt
  replace ra11 : RowL Wa10 _ 27 [Value.int IntKind.i64 0, Value.int IntKind.i64 0, Value.int IntKind.i64 0, Value.int IntKind.i64 0, Value.int IntKind.u64 ↑0, Value.int IntKind.u64 ↑0, Value.int IntKind.i64 0, Value.int IntKind.i64 0, Value.int IntKind.i64 0, Value.int IntKind.i64 0] := ra11
  clear ra7
  replace ba4 := ba4.grown ba9 ba4.size (by rintro k ⟨⟩; omega)
  replace q := q.grown ba9 q.size (by rintro k ⟨⟩; omega)
  replace r4 := r4.gr ba9 (by have := r4.lt; omega)
  replace r10 := r10.gr ba9 (by have := r10.lt; omega)
  replace r17 := r17.gr ba9 (by have := r17.lt; omega)
  have ra7 := ra11
  clear ra11
  refine LL.val (R.assign rfl rfl) rfl rfl rfl ?_
  refine LL.nilS ?_
  refine CC.seq ?_
  refine CC.region ?_
  refine LL.val (R.move rfl rfl) rfl rfl rfl ?_
  refine LL.call (R.call rfl rfl rfl) rfl rfl rfl (rread_F _ ws _ (hvh _ q) hw (by omega) hnr) ?_
  rintro e W4 ⟨rfl, b2⟩
  refine ⟨_, rfl, ?_⟩
  replace q := q.trans (b2.mono q.size)
  replace r4 := r4.up b2
  replace r10 := r10.up b2
  replace r17 := r17.up b2
  replace ra7 := ra7.up b2
  clear b2 ba4 ba9
  refine LL.val (R.move rfl rfl) rfl rfl rfl ?_
  refine LL.val (R.extract rfl rfl rfl) rfl rfl rfl ?_
  refine LL.val (R.extract rfl rfl rfl) rfl rfl rfl ?_
  have lb1 := r4.lt
  have lb2 := r10.lt
  have lb3 := r17.lt
  have lb4 := ra7.lt
  refine LL.alloc ([Value.int IntKind.i64 0, Value.int IntKind.i64 0, Value.int IntKind.i64 0, Value.int IntKind.i64 0, Value.int IntKind.u64 0, Value.int IntKind.u64 0, Value.int IntKind.i64 0, Value.int IntKind.i64 0, Value.int IntKind.i64 0, Value.int IntKind.i64 0]) rfl rfl rfl rfl rfl ?_
  intro Wb6 gb7 egb7 rb8 zb9 bb5
  replace q := q.trans (bb5.mono q.size)
  replace r4 := r4.up bb5
  replace r10 := r10.up bb5
  replace r17 := r17.up bb5
  replace ra7 := ra7.up bb5
  refine LL.storeN (vs := [Value.int IntKind.i64 0, Value.int IntKind.i64 0, Value.int IntKind.i64 0, Value.int IntKind.i64 0, Value.int IntKind.u64 ↑0, Value.int IntKind.u64 ↑0, Value.int IntKind.i64 0, Value.int IntKind.i64 0, Value.int IntKind.i64 0, Value.int IntKind.i64 0]) rfl rfl rfl rfl rb8 (by exact Nat.le_of_ble_eq_true rfl) (ones_of rfl) rfl rfl ?_
  intro Wb11 rb12 bb10 zb13
  have hlbb10 := rb8.lt
  replace rb12 : RowL Wb11 _ 27 [Value.int IntKind.i64 0, Value.int IntKind.i64 0, Value.int IntKind.i64 0, Value.int IntKind.i64 0, Value.int IntKind.u64 ↑0, Value.int IntKind.u64 ↑0, Value.int IntKind.i64 0, Value.int IntKind.i64 0, Value.int IntKind.i64 0, Value.int IntKind.i64 0] := rb12
  clear rb8
  replace bb5 := bb5.grown bb10 bb5.size (by rintro k ⟨⟩; omega)
  replace q := q.grown bb10 q.size (by rintro k ⟨⟩; omega)
  replace r4 := r4.gr bb10 (by have := r4.lt; omega)
  replace r10 := r10.gr bb10 (by have := r10.lt; omega)
  replace r17 := r17.gr bb10 (by have := r17.lt; omega)
  replace ra7 := ra7.gr bb10 (by have := ra7.lt; omega)
  have rb8 := rb12
  clear rb12
  refine LL.val (R.assign rfl rfl) rfl rfl rfl ?_
  refine LL.nilS ?_
  refine CC.seq ?_
  refine CC.seq ?_
  refine CC.region ?_
  refine LL.val (R.load rfl rfl (I.ldNc (vs := [Value.int IntKind.i64 0, Value.int IntKind.i64 0, Value.int IntKind.i64 0, Value.int IntKind.i64 0, Value.int IntKind.u64 0, Value.int IntKind.u64 0, Value.int IntKind.i64 0, Value.int IntKind.i64 0, Value.int IntKind.i64 0, Value.int IntKind.i64 0]) (RowL.cells ra7 rfl) (by rfl) (by rfl))) rfl rfl rfl ?_
  refine LL.val (R.load rfl rfl (I.ldNc (vs := [Value.int IntKind.i64 0, Value.int IntKind.i64 0, Value.int IntKind.i64 0, Value.int IntKind.i64 0, Value.int IntKind.u64 0, Value.int IntKind.u64 0, Value.int IntKind.i64 0, Value.int IntKind.i64 0, Value.int IntKind.i64 0, Value.int IntKind.i64 0]) (RowL.cells rb8 rfl) (by rfl) (by rfl))) rfl rfl rfl ?_
  refine LL.val (R.neST (p := (0 : Int) = 0 ∧ (0 : Int) = 0 ∧ (0 : Int) = 0 ∧ (0 : Int) = 0 ∧ (0 : Int) = 0 ∧ (0 : Int) = 0 ∧ (0 : Int) = 0 ∧ (0 : Int) = 0 ∧ (0 : Int) = 0 ∧ (0 : Int) = 0) (bs := [decide ((0 : Int) = 0), decide ((0 : Int) = 0), decide ((0 : Int) = 0), decide ((0 : Int) = 0), decide ((0 : Int) = 0), decide ((0 : Int) = 0), decide ((0 : Int) = 0), decide ((0 : Int) = 0), decide ((0 : Int) = 0), decide ((0 : Int) = 0)]) rfl rfl rfl rfl (by kernel_rfl) (by kernel_rfl) (by simp) (by first | assumption | omega)) rfl rfl rfl ?_
  refine LL.val (R.move rfl rfl) rfl rfl rfl ?_
  refine LL.val (R.move rfl rfl) rfl rfl rfl ?_
  refine LL.call (R.call rfl rfl rfl) rfl rfl rfl (num_any _ _) ?_
  rintro e W' ⟨rfl, rfl⟩
  refine ⟨_, rfl, ?_⟩
  refine LL.val (R.move rfl rfl) rfl rfl rfl ?_
  refine LL.val (R.neF rfl rfl rfl (by omega)) rfl rfl rfl ?_
  refine LL.val (R.pick rfl rfl rfl) rfl rfl rfl ?_
  refine LL.nilS ?_
  refine CC.no rfl ?_
  refine CC.skip ?_
  refine EE.thenN ?_
  refine CC.seq ?_
  refine CC.region ?_
  refine LL.val (R.load rfl rfl (I.ldNc (vs := [Value.int IntKind.i64 ↑b, Value.int IntKind.i64 ↑i, Value.int IntKind.i64 ↑r, Value.int IntKind.i64 ↑t]) (RowL.cells r4 rfl) (by rfl) (by rfl))) rfl rfl rfl ?_
  refine LL.val (R.load rfl rfl (I.ldNc (vs := [Value.int IntKind.u64 ↑k1, Value.int IntKind.u64 ↑k2]) (RowL.cells r10 rfl) (by rfl) (by rfl))) rfl rfl rfl ?_
  refine LL.val (R.index rfl rfl rfl (I.ixA1c rfl rfl (by first | omega | decide))) rfl rfl rfl ?_
  refine LL.val (R.load rfl rfl (I.ld1 rfl (RowL.cell r17 rfl))) rfl rfl rfl ?_
  refine LL.val (R.index rfl rfl rfl (I.ixA1c rfl rfl (by first | omega | decide))) rfl rfl rfl ?_
  refine LL.val (R.load rfl rfl (I.ld1 rfl (RowL.cell r17 rfl))) rfl rfl rfl ?_
  refine LL.val (R.move rfl rfl) rfl rfl rfl ?_
  refine LL.call (R.call rfl rfl rfl) rfl rfl rfl (device_T b i r t k1 k2 n at' by' more _ hok hb hk hm hat hn) ?_
  rintro e W5 ⟨g, rfl, rg, hg, b3⟩
  refine ⟨_, rfl, ?_⟩
  have l7 := ra7.lt
  have l8 := rb8.lt
  replace q := q.trans (b3.mono q.size)
  replace ra7 := ra7.up b3
  replace rb8 := rb8.up b3
  have hL : (devL b i r t k1 k2 n at' by').length = n := devL_len (by omega)
  have h2 := RowL.asInts rg .u64 _ rfl hL
  have hLw := devL_all (b := b) (i := i) (r := r) (t := t) (k1 := k1) (k2 := k2) (n := n) (at' := at') (by omega) hk.2.2
  obtain ⟨L, hLd⟩ : ∃ L, devL b i r t k1 k2 n at' by' = L := ⟨_, rfl⟩
  rw [hLd] at hL h2 hLw
  clear rg r4 r10 r17 b3 bb5 bb10 hvh hw
  by_cases hd : rdOk L
  case pos =>
    refine LL.val (R.move rfl rfl) rfl rfl rfl ?_
    refine LL.val (R.extract rfl rfl rfl) rfl rfl rfl ?_
    refine LL.val (R.extract rfl rfl rfl) rfl rfl rfl ?_
    refine LL.val (R.assign rfl rfl) rfl rfl rfl ?_
    refine LL.val (R.assign rfl rfl) rfl rfl rfl ?_
    refine LL.nilS ?_
    refine CC.seq ?_
    refine CC.seq ?_
    refine CC.region ?_
    refine LL.val (R.move rfl rfl) rfl rfl rfl ?_
    refine LL.val (R.not rfl rfl) rfl rfl rfl ?_
    refine LL.nilS ?_
    refine CC.no rfl ?_
    refine CC.skip ?_
    refine EE.thenN ?_
    refine CC.seq ?_
    refine CC.region ?_
    refine LL.val (R.move rfl rfl) rfl rfl rfl ?_
    refine LL.call (R.call rfl rfl rfl) rfl rfl rfl (read_T _ L _ h2 hLw (by omega) hd) ?_
    rintro e W6 ⟨rfl, b4⟩
    refine ⟨_, rfl, ?_⟩
    replace q := q.trans (b4.mono q.size)
    replace ra7 := ra7.up b4
    replace rb8 := rb8.up b4
    replace h2 := h2.up b4
    clear b4
    refine LL.val (R.move rfl rfl) rfl rfl rfl ?_
    refine LL.val (R.extract rfl rfl rfl) rfl rfl rfl ?_
    refine LL.val (R.extract rfl rfl rfl) rfl rfl rfl ?_
    refine LL.storeN (vs := [Value.int IntKind.i64 ↑(wd L 1), Value.int IntKind.i64 ↑(wd L 2), Value.int IntKind.i64 ↑(wd L 3), Value.int IntKind.i64 ↑(wd L 4), Value.int IntKind.u64 ↑(wd L 5), Value.int IntKind.u64 ↑(wd L 6), Value.int IntKind.i64 9, Value.int IntKind.i64 (9 + ↑(wd L 2) / 4), Value.int IntKind.i64 (9 + ↑(wd L 2) / 4 + ↑(wd L 3) / 4), Value.int IntKind.i64 (10 + ↑(wd L 2) / 4 + ↑(wd L 3) / 4)]) rfl rfl rfl rfl ra7 (by exact Nat.le_of_ble_eq_true rfl) (ones_of rfl) rfl rfl ?_
    intro Wd2 rd3 bd1 zd4
    have hlbd1 := ra7.lt
    replace rd3 : RowL Wd2 _ 27 [Value.int IntKind.i64 ↑(wd L 1), Value.int IntKind.i64 ↑(wd L 2), Value.int IntKind.i64 ↑(wd L 3), Value.int IntKind.i64 ↑(wd L 4), Value.int IntKind.u64 ↑(wd L 5), Value.int IntKind.u64 ↑(wd L 6), Value.int IntKind.i64 9, Value.int IntKind.i64 (9 + ↑(wd L 2) / 4), Value.int IntKind.i64 (9 + ↑(wd L 2) / 4 + ↑(wd L 3) / 4), Value.int IntKind.i64 (10 + ↑(wd L 2) / 4 + ↑(wd L 3) / 4)] := rd3
    clear ra7
    replace q := q.grown bd1 q.size (by rintro k ⟨⟩; omega)
    replace rb8 := rb8.gr bd1 (by have := rb8.lt; omega)
    replace h2 := h2.gr bd1 (by omega)
    have ra7 := rd3
    clear rd3
    refine LL.val (R.assign rfl rfl) rfl rfl rfl ?_
    refine LL.nilS ?_
    refine CC.seq ?_
    refine CC.region ?_
    refine LL.val (R.move rfl rfl) rfl rfl rfl ?_
    refine LL.call (R.call rfl rfl rfl) rfl rfl rfl (rread_T _ L _ h2 hLw (by omega) hd) ?_
    rintro e W7 ⟨rfl, b4⟩
    refine ⟨_, rfl, ?_⟩
    replace q := q.trans (b4.mono q.size)
    replace ra7 := ra7.up b4
    replace rb8 := rb8.up b4
    clear b4 h2
    refine LL.val (R.move rfl rfl) rfl rfl rfl ?_
    refine LL.val (R.extract rfl rfl rfl) rfl rfl rfl ?_
    refine LL.val (R.extract rfl rfl rfl) rfl rfl rfl ?_
    refine LL.storeN (vs := [Value.int IntKind.i64 ↑(wd L 1), Value.int IntKind.i64 ↑(wd L 2), Value.int IntKind.i64 ↑(wd L 3), Value.int IntKind.i64 ↑(wd L 4), Value.int IntKind.u64 ↑(wd L 5), Value.int IntKind.u64 ↑(wd L 6), Value.int IntKind.i64 9, Value.int IntKind.i64 (9 + ↑(wd L 2) / 4), Value.int IntKind.i64 (9 + ↑(wd L 2) / 4 + ↑(wd L 3) / 4), Value.int IntKind.i64 (10 + ↑(wd L 2) / 4 + ↑(wd L 3) / 4)]) rfl rfl rfl rfl rb8 (by exact Nat.le_of_ble_eq_true rfl) (ones_of rfl) rfl rfl ?_
    intro We2 re3 be1 ze4
    have hlbe1 := rb8.lt
    replace re3 : RowL We2 _ 27 [Value.int IntKind.i64 ↑(wd L 1), Value.int IntKind.i64 ↑(wd L 2), Value.int IntKind.i64 ↑(wd L 3), Value.int IntKind.i64 ↑(wd L 4), Value.int IntKind.u64 ↑(wd L 5), Value.int IntKind.u64 ↑(wd L 6), Value.int IntKind.i64 9, Value.int IntKind.i64 (9 + ↑(wd L 2) / 4), Value.int IntKind.i64 (9 + ↑(wd L 2) / 4 + ↑(wd L 3) / 4), Value.int IntKind.i64 (10 + ↑(wd L 2) / 4 + ↑(wd L 3) / 4)] := re3
    clear rb8
    replace q := q.grown be1 q.size (by rintro k ⟨⟩; omega)
    replace ra7 := ra7.gr be1 (by have := ra7.lt; omega)
    have rb8 := re3
    clear re3
    refine LL.val (R.assign rfl rfl) rfl rfl rfl ?_
    refine LL.nilS ?_
    refine CC.seq ?_
    refine CC.region ?_
    refine LL.val (R.load rfl rfl (I.ldNc (vs := [Value.int IntKind.i64 ↑(wd L 1), Value.int IntKind.i64 ↑(wd L 2), Value.int IntKind.i64 ↑(wd L 3), Value.int IntKind.i64 ↑(wd L 4), Value.int IntKind.u64 ↑(wd L 5), Value.int IntKind.u64 ↑(wd L 6), Value.int IntKind.i64 9, Value.int IntKind.i64 (9 + ↑(wd L 2) / 4), Value.int IntKind.i64 (9 + ↑(wd L 2) / 4 + ↑(wd L 3) / 4), Value.int IntKind.i64 (10 + ↑(wd L 2) / 4 + ↑(wd L 3) / 4)]) (RowL.cells ra7 rfl) (by rfl) (by rfl))) rfl rfl rfl ?_
    refine LL.val (R.load rfl rfl (I.ldNc (vs := [Value.int IntKind.i64 ↑(wd L 1), Value.int IntKind.i64 ↑(wd L 2), Value.int IntKind.i64 ↑(wd L 3), Value.int IntKind.i64 ↑(wd L 4), Value.int IntKind.u64 ↑(wd L 5), Value.int IntKind.u64 ↑(wd L 6), Value.int IntKind.i64 9, Value.int IntKind.i64 (9 + ↑(wd L 2) / 4), Value.int IntKind.i64 (9 + ↑(wd L 2) / 4 + ↑(wd L 3) / 4), Value.int IntKind.i64 (10 + ↑(wd L 2) / 4 + ↑(wd L 3) / 4)]) (RowL.cells rb8 rfl) (by rfl) (by rfl))) rfl rfl rfl ?_
    refine LL.val (R.eqST (p := (↑(wd L 1) : Int) = ↑(wd L 1) ∧ (↑(wd L 2) : Int) = ↑(wd L 2) ∧ (↑(wd L 3) : Int) = ↑(wd L 3) ∧ (↑(wd L 4) : Int) = ↑(wd L 4) ∧ (↑(wd L 5) : Int) = ↑(wd L 5) ∧ (↑(wd L 6) : Int) = ↑(wd L 6) ∧ (9 : Int) = 9 ∧ (9 + ↑(wd L 2) / 4 : Int) = 9 + ↑(wd L 2) / 4 ∧ (9 + ↑(wd L 2) / 4 + ↑(wd L 3) / 4 : Int) = 9 + ↑(wd L 2) / 4 + ↑(wd L 3) / 4 ∧ (10 + ↑(wd L 2) / 4 + ↑(wd L 3) / 4 : Int) = 10 + ↑(wd L 2) / 4 + ↑(wd L 3) / 4) (bs := [decide ((↑(wd L 1) : Int) = ↑(wd L 1)), decide ((↑(wd L 2) : Int) = ↑(wd L 2)), decide ((↑(wd L 3) : Int) = ↑(wd L 3)), decide ((↑(wd L 4) : Int) = ↑(wd L 4)), decide ((↑(wd L 5) : Int) = ↑(wd L 5)), decide ((↑(wd L 6) : Int) = ↑(wd L 6)), decide ((9 : Int) = 9), decide ((9 + ↑(wd L 2) / 4 : Int) = 9 + ↑(wd L 2) / 4), decide ((9 + ↑(wd L 2) / 4 + ↑(wd L 3) / 4 : Int) = 9 + ↑(wd L 2) / 4 + ↑(wd L 3) / 4), decide ((10 + ↑(wd L 2) / 4 + ↑(wd L 3) / 4 : Int) = 10 + ↑(wd L 2) / 4 + ↑(wd L 3) / 4)]) rfl rfl rfl rfl (by kernel_rfl) (by kernel_rfl) (by simp) (by first | assumption | omega)) rfl rfl rfl ?_
    refine LL.val (R.move rfl rfl) rfl rfl rfl ?_
    refine LL.val (R.move rfl rfl) rfl rfl rfl ?_
    refine LL.call (R.call rfl rfl rfl) rfl rfl rfl (num_any _ _) ?_
    rintro e W' ⟨rfl, rfl⟩
    refine ⟨_, rfl, ?_⟩
    refine LL.val (R.move rfl rfl) rfl rfl rfl ?_
    refine LL.val (R.eqT rfl rfl rfl (by omega)) rfl rfl rfl ?_
    refine LL.val (R.pick rfl rfl rfl) rfl rfl rfl ?_
    refine LL.val (R.move rfl rfl) rfl rfl rfl ?_
    refine LL.call (R.call rfl rfl rfl) rfl rfl rfl (works_any _) ?_
    rintro e We6 ⟨rfl, be5⟩
    refine ⟨_, rfl, ?_⟩
    have zbe5 := be5.size
    replace q := q.trans (be5.mono q.size)
    replace ra7 := ra7.up be5
    replace rb8 := rb8.up be5
    refine LL.val (R.pick rfl rfl rfl) rfl rfl rfl ?_
    refine LL.val (R.assign rfl rfl) rfl rfl rfl ?_
    refine LL.nilS ?_
    refine CC.ret ?_
    refine EE.ret _ rfl rfl ?_
    exact ⟨rfl, q⟩
  case neg =>
    refine LL.val (R.move rfl rfl) rfl rfl rfl ?_
    refine LL.val (R.extract rfl rfl rfl) rfl rfl rfl ?_
    refine LL.val (R.extract rfl rfl rfl) rfl rfl rfl ?_
    refine LL.val (R.assign rfl rfl) rfl rfl rfl ?_
    refine LL.val (R.assign rfl rfl) rfl rfl rfl ?_
    refine LL.nilS ?_
    refine CC.seq ?_
    refine CC.seq ?_
    refine CC.region ?_
    refine LL.val (R.move rfl rfl) rfl rfl rfl ?_
    refine LL.val (R.not rfl rfl) rfl rfl rfl ?_
    refine LL.nilS ?_
    refine CC.no rfl ?_
    refine CC.skip ?_
    refine EE.thenN ?_
    refine CC.seq ?_
    refine CC.region ?_
    refine LL.val (R.move rfl rfl) rfl rfl rfl ?_
    refine LL.call (R.call rfl rfl rfl) rfl rfl rfl (read_F _ L _ h2 hLw (by omega) hd) ?_
    rintro e W6 ⟨rfl, b4⟩
    refine ⟨_, rfl, ?_⟩
    replace q := q.trans (b4.mono q.size)
    replace ra7 := ra7.up b4
    replace rb8 := rb8.up b4
    replace h2 := h2.up b4
    clear b4
    refine LL.val (R.move rfl rfl) rfl rfl rfl ?_
    refine LL.val (R.extract rfl rfl rfl) rfl rfl rfl ?_
    refine LL.val (R.extract rfl rfl rfl) rfl rfl rfl ?_
    refine LL.storeN (vs := [Value.int IntKind.i64 0, Value.int IntKind.i64 0, Value.int IntKind.i64 0, Value.int IntKind.i64 0, Value.int IntKind.u64 ↑0, Value.int IntKind.u64 ↑0, Value.int IntKind.i64 0, Value.int IntKind.i64 0, Value.int IntKind.i64 0, Value.int IntKind.i64 0]) rfl rfl rfl rfl ra7 (by exact Nat.le_of_ble_eq_true rfl) (ones_of rfl) rfl rfl ?_
    intro Wg2 rg3 bg1 zg4
    have hlbg1 := ra7.lt
    replace rg3 : RowL Wg2 _ 27 [Value.int IntKind.i64 0, Value.int IntKind.i64 0, Value.int IntKind.i64 0, Value.int IntKind.i64 0, Value.int IntKind.u64 ↑0, Value.int IntKind.u64 ↑0, Value.int IntKind.i64 0, Value.int IntKind.i64 0, Value.int IntKind.i64 0, Value.int IntKind.i64 0] := rg3
    clear ra7
    replace q := q.grown bg1 q.size (by rintro k ⟨⟩; omega)
    replace rb8 := rb8.gr bg1 (by have := rb8.lt; omega)
    replace h2 := h2.gr bg1 (by omega)
    have ra7 := rg3
    clear rg3
    refine LL.val (R.assign rfl rfl) rfl rfl rfl ?_
    refine LL.nilS ?_
    refine CC.seq ?_
    refine CC.region ?_
    refine LL.val (R.move rfl rfl) rfl rfl rfl ?_
    refine LL.call (R.call rfl rfl rfl) rfl rfl rfl (rread_F _ L _ h2 hLw (by omega) hd) ?_
    rintro e W7 ⟨rfl, b4⟩
    refine ⟨_, rfl, ?_⟩
    replace q := q.trans (b4.mono q.size)
    replace ra7 := ra7.up b4
    replace rb8 := rb8.up b4
    clear b4 h2
    refine LL.val (R.move rfl rfl) rfl rfl rfl ?_
    refine LL.val (R.extract rfl rfl rfl) rfl rfl rfl ?_
    refine LL.val (R.extract rfl rfl rfl) rfl rfl rfl ?_
    refine LL.storeN (vs := [Value.int IntKind.i64 0, Value.int IntKind.i64 0, Value.int IntKind.i64 0, Value.int IntKind.i64 0, Value.int IntKind.u64 ↑0, Value.int IntKind.u64 ↑0, Value.int IntKind.i64 0, Value.int IntKind.i64 0, Value.int IntKind.i64 0, Value.int IntKind.i64 0]) rfl rfl rfl rfl rb8 (by exact Nat.le_of_ble_eq_true rfl) (ones_of rfl) rfl rfl ?_
    intro Wh2 rh3 bh1 zh4
    have hlbh1 := rb8.lt
    replace rh3 : RowL Wh2 _ 27 [Value.int IntKind.i64 0, Value.int IntKind.i64 0, Value.int IntKind.i64 0, Value.int IntKind.i64 0, Value.int IntKind.u64 ↑0, Value.int IntKind.u64 ↑0, Value.int IntKind.i64 0, Value.int IntKind.i64 0, Value.int IntKind.i64 0, Value.int IntKind.i64 0] := rh3
    clear rb8
    replace q := q.grown bh1 q.size (by rintro k ⟨⟩; omega)
    replace ra7 := ra7.gr bh1 (by have := ra7.lt; omega)
    have rb8 := rh3
    clear rh3
    refine LL.val (R.assign rfl rfl) rfl rfl rfl ?_
    refine LL.nilS ?_
    refine CC.seq ?_
    refine CC.region ?_
    refine LL.val (R.load rfl rfl (I.ldNc (vs := [Value.int IntKind.i64 0, Value.int IntKind.i64 0, Value.int IntKind.i64 0, Value.int IntKind.i64 0, Value.int IntKind.u64 0, Value.int IntKind.u64 0, Value.int IntKind.i64 0, Value.int IntKind.i64 0, Value.int IntKind.i64 0, Value.int IntKind.i64 0]) (RowL.cells ra7 rfl) (by rfl) (by rfl))) rfl rfl rfl ?_
    refine LL.val (R.load rfl rfl (I.ldNc (vs := [Value.int IntKind.i64 0, Value.int IntKind.i64 0, Value.int IntKind.i64 0, Value.int IntKind.i64 0, Value.int IntKind.u64 0, Value.int IntKind.u64 0, Value.int IntKind.i64 0, Value.int IntKind.i64 0, Value.int IntKind.i64 0, Value.int IntKind.i64 0]) (RowL.cells rb8 rfl) (by rfl) (by rfl))) rfl rfl rfl ?_
    refine LL.val (R.eqST (p := (0 : Int) = 0 ∧ (0 : Int) = 0 ∧ (0 : Int) = 0 ∧ (0 : Int) = 0 ∧ (0 : Int) = 0 ∧ (0 : Int) = 0 ∧ (0 : Int) = 0 ∧ (0 : Int) = 0 ∧ (0 : Int) = 0 ∧ (0 : Int) = 0) (bs := [decide ((0 : Int) = 0), decide ((0 : Int) = 0), decide ((0 : Int) = 0), decide ((0 : Int) = 0), decide ((0 : Int) = 0), decide ((0 : Int) = 0), decide ((0 : Int) = 0), decide ((0 : Int) = 0), decide ((0 : Int) = 0), decide ((0 : Int) = 0)]) rfl rfl rfl rfl (by kernel_rfl) (by kernel_rfl) (by simp) (by first | assumption | omega)) rfl rfl rfl ?_
    refine LL.val (R.move rfl rfl) rfl rfl rfl ?_
    refine LL.val (R.move rfl rfl) rfl rfl rfl ?_
    refine LL.call (R.call rfl rfl rfl) rfl rfl rfl (num_any _ _) ?_
    rintro e W' ⟨rfl, rfl⟩
    refine ⟨_, rfl, ?_⟩
    refine LL.val (R.move rfl rfl) rfl rfl rfl ?_
    refine LL.val (R.eqT rfl rfl rfl (by omega)) rfl rfl rfl ?_
    refine LL.val (R.pick rfl rfl rfl) rfl rfl rfl ?_
    refine LL.val (R.move rfl rfl) rfl rfl rfl ?_
    refine LL.call (R.call rfl rfl rfl) rfl rfl rfl (works_any _) ?_
    rintro e Wh6 ⟨rfl, bh5⟩
    refine ⟨_, rfl, ?_⟩
    have zbh5 := bh5.size
    replace q := q.trans (bh5.mono q.size)
    replace ra7 := ra7.up bh5
    replace rb8 := rb8.up bh5
    refine LL.val (R.pick rfl rfl rfl) rfl rfl rfl ?_
    refine LL.val (R.assign rfl rfl) rfl rfl rfl ?_
    refine LL.nilS ?_
    refine CC.ret ?_
    refine EE.ret _ rfl rfl ?_
    exact ⟨rfl, q⟩
theorem reads_walk (b i r t : Int) (k1 k2 : Nat) (more at' : Int) (by' : Nat) (v : Value) (ws : List Nat) (w : World) (hv : Reads w v (ints .u64 ws)) (hw : ∀ x ∈ ws, x < 18446744073709551616) (hk : k1 < 18446744073709551616 ∧ k2 < 18446744073709551616 ∧ by' < 18446744073709551616) : Calls Try.prog 5 #[formV b i r t, keyV k1 k2, .agg #[.int .i64 more, .int .i64 at'], .int .u64 (by' : Int), v] w fun x w' => x = .returned (.bool true) ∧ Below w.heap.size w w' := by
  by_cases h : 100 < ws.length
  · exact reads_many b i r t k1 k2 more at' by' v ws w hv h
  by_cases hok : okF b i r t
  case neg => exact reads_bad b i r t k1 k2 more at' by' v ws w hv hw (by omega) fun W => device_F1 b i r t k1 k2 more at' by' W hok
  by_cases h2 : 64 < b ∨ more < -1 ∨ 1 < more ∨ at' < 0 ∨ 63 < at'
  · exact reads_bad b i r t k1 k2 more at' by' v ws w hv hw (by omega) fun W => device_F2 b i r t k1 k2 more at' by' W hok h2
  obtain ⟨b, rfl⟩ := Int.eq_ofNat_of_zero_le (show 0 ≤ b by omega)
  obtain ⟨i, rfl⟩ := Int.eq_ofNat_of_zero_le (show 0 ≤ i by omega)
  obtain ⟨r, rfl⟩ := Int.eq_ofNat_of_zero_le (show 0 ≤ r by omega)
  obtain ⟨t, rfl⟩ := Int.eq_ofNat_of_zero_le (show 0 ≤ t by omega)
  obtain ⟨at', rfl⟩ := Int.eq_ofNat_of_zero_le (show 0 ≤ at' by omega)
  obtain ⟨n, hn⟩ := Int.eq_ofNat_of_zero_le (show 0 ≤ 64 * (b : Int) + more by omega)
  exact reads_good b i r t k1 k2 n at' more by' v ws w hv hw (by omega) hk hok (by omega) (by omega) (by omega) hn
theorem reads_shell (b i r t : Int) (k1 k2 : Nat) (more at' by' : Int) (v : Value) (ws : List Nat) (w : World) (hv : Reads w v (ints .u64 ws)) (hw : ∀ x ∈ ws, x < 18446744073709551616) (hk : k1 < 18446744073709551616 ∧ k2 < 18446744073709551616) (hy : 0 ≤ by' ∧ by' < 18446744073709551616) : Calls Try.prog 5 #[formV b i r t, keyV k1 k2, .agg #[.int .i64 more, .int .i64 at'], .int .u64 by', v] w fun x w' => x = .returned (.bool true) ∧ Below w.heap.size w w' := by
  obtain ⟨y, rfl⟩ := Int.eq_ofNat_of_zero_le hy.1
  exact reads_walk b i r t k1 k2 more at' y v ws w hv hw (by omega)
end Go.Proofs.Ythdgnogpjpoklaa
