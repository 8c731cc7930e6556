/- layout: the document's parts, in order. -/
import Derived.Test.YthdgnogpjpoklaaPartsM
import Derived.Test.YthdgnogpjpoklaaPartR
import Derived.Test.YthdgnogpjpoklaaTWalk
import Derived.Test.YthdgnogpjpoklaaRes1
namespace Go.Proofs.Ythdgnogpjpoklaa
set_option linter.unusedVariables false
set_option linter.unusedSimpArgs false
open Go.RowKit Go.Shelf
theorem info_parts_t {P : Program} {T e : TypeId} {z : Value} {k bytes : Nat} (hu : P.underlying T = some (.slice e)) (h : (P.info? e).map (fun i => (i.zero, i.size, i.bytes)) = some (some z, k, bytes)) (hz : z.cells.size = k) : ElT P T e z k bytes := by
  refine ⟨hu, ?_, hz⟩
  cases hi : P.info? e with
  | none => rw [hi] at h; cases h
  | some i =>
    rw [hi] at h
    simp only [Option.map_some, Option.some.injEq, Prod.mk.injEq] at h
    exact ⟨i, rfl, h.1, h.2.1, h.2.2⟩

def eP (p : Nat × Nat) : List Value := [.int .i64 (p.1 : Int), .int .i64 (p.2 : Int)]
def eI (n : Nat) : List Value := [.int .i64 (n : Int)]
theorem ePc : Enc eP 2 := ⟨fun _ => rfl, fun t u hu => by
  simp only [eP, List.mem_cons, List.not_mem_nil, or_false] at hu
  rcases hu with rfl | rfl <;> rfl, by decide⟩
theorem eIc : Enc eI 1 := ⟨fun _ => rfl, fun t u hu => by
  simp only [eI, List.mem_cons, List.not_mem_nil, or_false] at hu
  subst hu
  rfl, by decide⟩
theorem Try.infoPa : (Try.prog.info? 46).map (fun i => (i.zero, i.size, i.bytes)) = some (some (.agg #[.int .i64 0, .int .i64 0]), 2, 16) := by kernel_rfl
theorem ElPa : ElT Try.prog 61 46 (.agg #[.int .i64 0, .int .i64 0]) 2 16 := info_parts_t Try.underlying61 Try.infoPa rfl
theorem Try.infoIn : (Try.prog.info? 3).map (fun i => (i.zero, i.size, i.bytes)) = some (some (.int .i64 0), 1, 8) := by kernel_rfl
theorem ElIn : ElT Try.prog 62 3 (.int .i64 0) 1 8 := info_parts_t Try.underlying62 Try.infoIn rfl
/-- Parts, and their first words. -/
def ptsL (L : List Pa) : List (Nat × Nat) := L.map (·.2)
def atsL (L : List Pa) : List Nat := L.map (·.1)
set_option maxRecDepth 100000 in
set_option maxHeartbeats 8000000 in
theorem rparts_any (b i r t k1 k2 : Nat) (a c d e : Int) (w : World) (hl : isL b i r t a c d e) : Calls Try.prog 26 #[layV b i r t k1 k2 a c d e] w fun x w' => ∃ v1 v2, x = .returned (.tuple #[v1, v2]) ∧ OwnsT eP 2 w' w.heap.size 46 v1 (ptsL (allP b i r)) ∧ OwnsT eI 1 w' w.heap.size 3 v2 (atsL (allP b i r)) ∧ Below w.heap.size w w' := by
  have q := Below.refl w.heap.size w
  have hlen := all_len b i r
  obtain ⟨L, hL⟩ : ∃ L, allP b i r = L := ⟨_, rfl⟩
  rw [hL]
  refine X.fn Try.func26 rfl (n := 43) rfl rfl ?_
  refine CC.seq ?_
  refine CC.region ?_
  refine LL.box [Value.int IntKind.i64 ↑b, Value.int IntKind.i64 ↑i, Value.int IntKind.i64 ↑r, Value.int IntKind.i64 ↑t, Value.int IntKind.u64 ↑k1, Value.int IntKind.u64 ↑k2, Value.int IntKind.i64 a, Value.int IntKind.i64 c, Value.int IntKind.i64 d, Value.int IntKind.i64 e] rfl rfl rfl rfl rfl ?_
  intro W2 g3 eg3 r4 z5 b1
  replace q := q.trans (b1.mono q.size)
  refine LL.val (R.assign rfl rfl) rfl rfl rfl ?_
  refine LL.val (R.assign rfl rfl) rfl rfl rfl ?_
  refine LL.nilS ?_
  refine CC.seq ?_
  refine CC.region ?_
  refine LL.val (R.assign rfl rfl) rfl rfl rfl ?_
  refine LL.nilS ?_
  refine CC.seq ?_
  refine CC.region ?_
  refine LL.val (R.assign rfl rfl) rfl rfl rfl ?_
  refine LL.nilS ?_
  refine CC.seq ?_
  refine CC.seq ?_
  refine CC.region ?_
  refine LL.val (R.assign rfl rfl) rfl rfl rfl ?_
  refine LL.nilS ?_
  refine CC.block ?_
  have yq := q.size
  refine CC.loop (α := Nat × Nat × Value × Value) (fun s => [(1, .pointer (some ⟨g3, 0, none⟩)), (4, s.2.2.1), (5, s.2.2.2), (6, .int .i64 (s.1 : Int))])
    (fun s W => s.1 ≤ 64 * b ∧ AtW L s.2.1 s.1 ∧ Below w.heap.size w W ∧ RowL W g3 27 [.int .i64 (b : Int), .int .i64 (i : Int), .int .i64 (r : Int), .int .i64 (t : Int), .int .u64 (k1 : Int), .int .u64 (k2 : Int), .int .i64 a, .int .i64 c, .int .i64 d, .int .i64 e] ∧ OwnsT eP 2 W (W2.heap.size) 46 s.2.2.1 (ptsL (L.take s.2.1)) ∧ OwnsT eI 1 W (W2.heap.size) 3 s.2.2.2 (atsL (L.take s.2.1)) ∧ (s.2.2.2.ownBlock = none ∨ s.2.2.2.ownBlock ≠ s.2.2.1.ownBlock))
    (fun s => 64 * b - s.1) (0, 0, .slice none 0 0, .slice none 0 0) ⟨rfl, rfl, rfl, rfl, trivial⟩ ⟨by show 0 ≤ _; omega, by rw [← hL]; exact AtW.zero _, q, r4, by simpa [ptsL] using OwnsT.none _ _ _, by simpa [atsL] using OwnsT.none _ _ _, .inl rfl⟩ ?_
  rintro ⟨x, n, v1, v2⟩ W ⟨hx, hA, q, r4, o1, o2, hne⟩
  simp only at hx hA o1 o2 hne
  show CC none Try.prog _ 43 [] (sl [(1, .pointer (some ⟨g3, 0, none⟩)), (4, v1), (5, v2), (6, .int .i64 (x : Int))]) _ W
  by_cases hlt : x < 64 * b
  case neg =>
    obtain rfl : x = 64 * b := by omega
    have hn : n = L.length := by rw [← hL] at hA ⊢; exact hA.done (by omega) (by omega) (by omega)
    rw [hn, List.take_length] at o1 o2
    clear hA hlen
    refine CC.seq ?_
    refine CC.seq ?_
    refine CC.region ?_
    refine LL.val (R.move rfl rfl) rfl rfl rfl ?_
    refine LL.val (R.field rfl rfl (I.fld rfl)) rfl rfl rfl ?_
    refine LL.val (R.field rfl rfl (I.fld rfl)) rfl rfl rfl ?_
    refine LL.val (R.load rfl rfl (I.ld1 rfl (RowL.cell r4 rfl))) rfl rfl rfl ?_
    refine LL.val (R.mulcN rfl rfl rfl rfl (by omega)) rfl rfl rfl ?_
    refine LL.val (R.ltF rfl rfl rfl (by omega)) rfl rfl rfl ?_
    refine LL.nilS ?_
    refine CC.no rfl ?_
    refine CC.exit ?_
    refine EE.thenX ?_
    refine EE.thenX ?_
    refine EE.inX ?_
    refine EE.thenN ?_
    refine CC.seq ?_
    refine CC.region ?_
    refine LL.val (R.move rfl rfl) rfl rfl rfl ?_
    refine LL.val (R.move rfl rfl) rfl rfl rfl ?_
    refine LL.val (R.assign rfl rfl) rfl rfl rfl ?_
    refine LL.val (R.assign rfl rfl) rfl rfl rfl ?_
    refine LL.nilS ?_
    refine CC.ret ?_
    refine EE.ret _ rfl rfl ?_
    exact ⟨v1, v2, rfl, o1.lower (by omega), o2.lower (by omega), q⟩
  have hpf : partF i r x = scanP x L (0, 0) := by rw [← hL]; exact (scan_partF (by omega) (by omega) (by omega) (by omega) (by omega) hlt).symm
  have hlb : n ≤ 8192 := by have := hA.le; rw [← hL] at this; omega
  by_cases hhit : ∃ y, L[n]? = some y ∧ y.1 = x
  case neg =>
    rw [← hL] at hA
    obtain ⟨hA', h0, z, hz, hsc⟩ := hA.miss (by omega) (by omega) (fun y hy e => hhit ⟨y, by rw [← hL]; exact hy, e⟩)
    rw [hL] at hA' hz hsc
    obtain ⟨m, rfl⟩ : ∃ m, n = m + 1 := ⟨n - 1, by omega⟩
    rw [Nat.add_sub_cancel] at hz
    have hpart : ∀ W, Calls Try.prog 25 #[layV b i r t k1 k2 a c d e, .int .i64 (x : Int)] W fun y w' => y = .returned (.agg #[.int .i64 (z.2.1 : Int), .int .i64 (z.2.2 : Int)]) ∧ Below W.heap.size W w' := by
      intro W
      have := rpart_any b i r t k1 k2 a c d e x W hl hlt
      rw [hpf, hsc] at this
      exact this
    have hr1 := o1.reads ePc
    have hll : (ptsL (L.take (m + 1))).length = m + 1 := by
      have := (List.getElem?_eq_some_iff.1 hz).1
      have := hA'.le
      simp [ptsL]
      omega
    obtain ⟨av, cap, rfl, hcap⟩ := hr1.form hll
    have hgz : (ptsL (L.take (m + 1)))[m + 1 - 1]? = some z.2 := by
      rw [Nat.add_sub_cancel]
      simp [ptsL, hz]
    obtain ⟨bk, off, rfl, hbk, hcs⟩ := hr1.get ePc hgz
    have hcs : Cells W ⟨bk, off + (m + 1 - 1) * 2, none⟩ [.int .i64 (z.2.1 : Int), .int .i64 (z.2.2 : Int)] := hcs
    have qj := Below.refl W.heap.size W
    have H1 : ∀ W', Below W.heap.size W W' → OwnsT eP 2 W' W2.heap.size 46 _ (ptsL (L.take (m + 1))) := fun W' h => o1.up h
    have H2 : ∀ W', Below W.heap.size W W' → OwnsT eI 1 W' W2.heap.size 3 v2 (atsL (L.take (m + 1))) := fun W' h => o2.up h
    clear hA hpf hhit hlen hr1 hll hgz hsc o1 o2
    refine CC.seq ?_
    refine CC.seq ?_
    refine CC.region ?_
    refine LL.val (R.move rfl rfl) rfl rfl rfl ?_
    refine LL.val (R.field rfl rfl (I.fld rfl)) rfl rfl rfl ?_
    refine LL.val (R.field rfl rfl (I.fld rfl)) rfl rfl rfl ?_
    refine LL.val (R.load rfl rfl (I.ld1 rfl (RowL.cell r4 rfl))) rfl rfl rfl ?_
    refine LL.val (R.mulcN rfl rfl rfl rfl (by omega)) rfl rfl rfl ?_
    refine LL.val (R.ltT rfl rfl rfl (by omega)) rfl rfl rfl ?_
    refine LL.nilS ?_
    refine CC.yes rfl ?_
    refine CC.skip ?_
    refine EE.thenN ?_
    refine CC.seq ?_
    refine CC.block ?_
    refine CC.seq ?_
    refine CC.region ?_
    refine LL.val (R.load rfl rfl (I.ldNc (vs := [Value.int IntKind.i64 ↑b, Value.int IntKind.i64 ↑i, Value.int IntKind.i64 ↑r, Value.int IntKind.i64 ↑t, Value.int IntKind.u64 ↑k1, Value.int IntKind.u64 ↑k2, Value.int IntKind.i64 a, Value.int IntKind.i64 c, Value.int IntKind.i64 d, Value.int IntKind.i64 e]) (RowL.cells r4 rfl) (by rfl) (by rfl))) rfl rfl rfl ?_
    refine LL.val (R.move rfl rfl) rfl rfl rfl ?_
    refine LL.call (R.call rfl rfl rfl) rfl rfl rfl (hpart _) ?_
    rintro e Wb2 ⟨rfl, bb1⟩
    refine ⟨_, rfl, ?_⟩
    have zbb1 := bb1.size
    replace q := q.trans (bb1.mono q.size)
    replace r4 := r4.up bb1
    replace hcs := hcs.up bb1
    replace qj := qj.trans (bb1.mono qj.size)
    have lb3 := r4.lt
    refine LL.alloc ([Value.int IntKind.i64 0, Value.int IntKind.i64 0]) rfl rfl rfl rfl rfl ?_
    intro Wb5 gb6 egb6 rb7 zb8 bb4
    replace bb1 := bb1.trans (bb4.mono bb1.size)
    replace q := q.trans (bb4.mono q.size)
    replace r4 := r4.up bb4
    replace hcs := hcs.up bb4
    replace qj := qj.trans (bb4.mono qj.size)
    refine LL.storeN (vs := [Value.int IntKind.i64 ↑z.2.1, Value.int IntKind.i64 ↑z.2.2]) rfl rfl rfl rfl rb7 (by exact Nat.le_of_ble_eq_true rfl) (ones_of rfl) rfl rfl ?_
    intro Wb10 rb11 bb9 zb12
    have hlbb9 := rb7.lt
    replace rb11 : RowL Wb10 _ 46 [Value.int IntKind.i64 ↑z.2.1, Value.int IntKind.i64 ↑z.2.2] := rb11
    clear rb7
    replace bb4 := bb4.grown bb9 bb4.size (by rintro k ⟨⟩; omega)
    replace bb1 := bb1.grown bb9 bb1.size (by rintro k ⟨⟩; omega)
    replace q := q.grown bb9 q.size (by rintro k ⟨⟩; omega)
    replace r4 := r4.gr bb9 (by have := r4.lt; omega)
    replace hcs := hcs.gr bb9 (by omega)
    replace qj := qj.grown bb9 qj.size (by rintro k ⟨⟩; omega)
    have rb7 := rb11
    clear rb11
    refine LL.nilS ?_
    refine CC.seq ?_
    refine CC.region ?_
    refine LL.val (R.move rfl rfl) rfl rfl rfl ?_
    refine LL.val (R.len rfl rfl rfl rfl) rfl rfl rfl ?_
    refine LL.val (R.subNc rfl rfl rfl rfl (by omega) (by omega)) rfl rfl rfl ?_
    refine LL.val (R.assign rfl rfl) rfl rfl rfl ?_
    refine LL.nilS ?_
    refine CC.seq ?_
    refine CC.quietB (by kernel_rfl) (by kernel_rfl) (fun Wb14 bb13 zb15 => ?_)
    replace bb4 := bb4.trans (bb13.mono bb4.size)
    replace bb1 := bb1.trans (bb13.mono bb1.size)
    replace q := q.trans (bb13.mono q.size)
    replace r4 := r4.up bb13
    replace hcs := hcs.up bb13
    replace qj := qj.trans (bb13.mono qj.size)
    replace rb7 := rb7.up bb13
    refine SS.val (R.move rfl rfl) rfl rfl ?_
    refine SS.val (R.ltF rfl rfl rfl (by omega)) rfl rfl ?_
    refine SS.val (R.move rfl rfl) rfl rfl ?_
    refine SS.val (R.move rfl rfl) rfl rfl ?_
    refine SS.val (R.move rfl rfl) rfl rfl ?_
    refine SS.val (R.index rfl rfl rfl (I.ixS rfl (by omega))) rfl rfl ?_
    refine SS.val (R.load rfl rfl (I.ldNc (by assumption) rfl rfl)) rfl rfl ?_
    refine SS.val (R.load rfl rfl (I.ldNc (vs := [Value.int IntKind.i64 ↑z.2.1, Value.int IntKind.i64 ↑z.2.2]) (RowL.cells rb7 rfl) (by rfl) (by rfl))) rfl rfl ?_
    refine SS.val (R.neST (p := (↑z.2.1 : Int) = ↑z.2.1 ∧ (↑z.2.2 : Int) = ↑z.2.2) (bs := [decide ((↑z.2.1 : Int) = ↑z.2.1), decide ((↑z.2.2 : Int) = ↑z.2.2)]) rfl rfl rfl rfl (by kernel_rfl) (by kernel_rfl) (by simp) (by first | assumption | omega)) rfl rfl ?_
    refine SS.val (R.pick rfl rfl rfl) rfl rfl ?_
    refine SS.nilQ ?_
    refine EE.thenN ?_
    refine CC.no rfl ?_
    refine CC.skip ?_
    refine EE.inN ?_
    refine EE.thenN ?_
    refine CC.region ?_
    refine LL.val (R.move rfl rfl) rfl rfl rfl ?_
    refine LL.val (R.addNc rfl rfl rfl rfl (by omega)) rfl rfl rfl ?_
    refine LL.val (R.assign rfl rfl) rfl rfl rfl ?_
    refine LL.nil ?_
    exact EE.round (x + 1, m + 1, _, v2) ⟨rfl, rfl, rfl, rfl, trivial⟩ ⟨by show x + 1 ≤ 64 * b; omega, hA', q, r4, H1 _ qj, H2 _ qj, hne⟩ (by show 64 * b - (x + 1) < 64 * b - x; omega)
  case pos =>
    obtain ⟨⟨f0, kd, nn⟩, hy, hyx⟩ := hhit
    simp only at hyx
    rw [← hL] at hA hy
    obtain ⟨hA', hsc, hdiff⟩ := hA.hit (by omega) (by omega) hy hyx
    rw [hL] at hA' hsc hy hdiff
    have hnl := (List.getElem?_eq_some_iff.1 hy).1
    have ht1 : ptsL (L.take (n + 1)) = ptsL (L.take n) ++ [(kd, nn)] := by unfold ptsL; rw [List.take_add_one, hy]; simp
    have ht2 : atsL (L.take (n + 1)) = atsL (L.take n) ++ [x] := by unfold atsL; rw [List.take_add_one, hy]; simp [hyx]
    have hpart : ∀ W, Calls Try.prog 25 #[layV b i r t k1 k2 a c d e, .int .i64 (x : Int)] W fun y w' => y = .returned (.agg #[.int .i64 (kd : Int), .int .i64 (nn : Int)]) ∧ Below W.heap.size W w' := by
      intro W
      have := rpart_any b i r t k1 k2 a c d e x W hl hlt
      rw [hpf, hsc] at this
      exact this
    have hr1 := o1.reads ePc
    have qj := Below.refl W.heap.size W
    cases n with
    | zero =>
      have hll : (ptsL (L.take 0)).length = 0 := by
        simp [ptsL]
      obtain ⟨av, cap, rfl, hcap⟩ := hr1.form hll
      have H1 : ∀ W', Below W.heap.size W W' → OwnsT eP 2 W' W2.heap.size 46 _ (ptsL (L.take 0)) := fun W' h => o1.up h
      have H2 : ∀ W', Below W.heap.size W W' → OwnsT eI 1 W' W2.heap.size 3 v2 (atsL (L.take 0)) := fun W' h => o2.up h
      have hl1 : (ptsL (L.take 0)).length ≤ 8192 := by rw [hll]; omega
      have hl2 : (atsL (L.take 0)).length ≤ 8192 := by simp [atsL]
      clear hA hpf hlen hr1 hll o1 o2 hsc
      refine CC.seq ?_
      refine CC.seq ?_
      refine CC.region ?_
      refine LL.val (R.move rfl rfl) rfl rfl rfl ?_
      refine LL.val (R.field rfl rfl (I.fld rfl)) rfl rfl rfl ?_
      refine LL.val (R.field rfl rfl (I.fld rfl)) rfl rfl rfl ?_
      refine LL.val (R.load rfl rfl (I.ld1 rfl (RowL.cell r4 rfl))) rfl rfl rfl ?_
      refine LL.val (R.mulcN rfl rfl rfl rfl (by omega)) rfl rfl rfl ?_
      refine LL.val (R.ltT rfl rfl rfl (by omega)) rfl rfl rfl ?_
      refine LL.nilS ?_
      refine CC.yes rfl ?_
      refine CC.skip ?_
      refine EE.thenN ?_
      refine CC.seq ?_
      refine CC.block ?_
      refine CC.seq ?_
      refine CC.region ?_
      refine LL.val (R.load rfl rfl (I.ldNc (vs := [Value.int IntKind.i64 ↑b, Value.int IntKind.i64 ↑i, Value.int IntKind.i64 ↑r, Value.int IntKind.i64 ↑t, Value.int IntKind.u64 ↑k1, Value.int IntKind.u64 ↑k2, Value.int IntKind.i64 a, Value.int IntKind.i64 c, Value.int IntKind.i64 d, Value.int IntKind.i64 e]) (RowL.cells r4 rfl) (by rfl) (by rfl))) rfl rfl rfl ?_
      refine LL.val (R.move rfl rfl) rfl rfl rfl ?_
      refine LL.call (R.call rfl rfl rfl) rfl rfl rfl (hpart _) ?_
      rintro e Wc2 ⟨rfl, bc1⟩
      refine ⟨_, rfl, ?_⟩
      have zbc1 := bc1.size
      replace q := q.trans (bc1.mono q.size)
      replace r4 := r4.up bc1
      replace qj := qj.trans (bc1.mono qj.size)
      have lc3 := r4.lt
      refine LL.alloc ([Value.int IntKind.i64 0, Value.int IntKind.i64 0]) rfl rfl rfl rfl rfl ?_
      intro Wc5 gc6 egc6 rc7 zc8 bc4
      replace bc1 := bc1.trans (bc4.mono bc1.size)
      replace q := q.trans (bc4.mono q.size)
      replace r4 := r4.up bc4
      replace qj := qj.trans (bc4.mono qj.size)
      refine LL.storeN (vs := [Value.int IntKind.i64 ↑kd, Value.int IntKind.i64 ↑nn]) rfl rfl rfl rfl rc7 (by exact Nat.le_of_ble_eq_true rfl) (ones_of rfl) rfl rfl ?_
      intro Wc10 rc11 bc9 zc12
      have hlbc9 := rc7.lt
      replace rc11 : RowL Wc10 _ 46 [Value.int IntKind.i64 ↑kd, Value.int IntKind.i64 ↑nn] := rc11
      clear rc7
      replace bc4 := bc4.grown bc9 bc4.size (by rintro k ⟨⟩; omega)
      replace bc1 := bc1.grown bc9 bc1.size (by rintro k ⟨⟩; omega)
      replace q := q.grown bc9 q.size (by rintro k ⟨⟩; omega)
      replace r4 := r4.gr bc9 (by have := r4.lt; omega)
      replace qj := qj.grown bc9 qj.size (by rintro k ⟨⟩; omega)
      have rc7 := rc11
      clear rc11
      refine LL.nilS ?_
      refine CC.seq ?_
      refine CC.region ?_
      refine LL.val (R.move rfl rfl) rfl rfl rfl ?_
      refine LL.val (R.len rfl rfl rfl rfl) rfl rfl rfl ?_
      refine LL.val (R.subIz (z := -1) rfl rfl rfl (by decide) (by decide)) rfl rfl rfl ?_
      refine LL.val (R.assign rfl rfl) rfl rfl rfl ?_
      refine LL.nilS ?_
      refine CC.seq ?_
      refine CC.quietB (by kernel_rfl) (by kernel_rfl) (fun Wc14 bc13 zc15 => ?_)
      replace bc4 := bc4.trans (bc13.mono bc4.size)
      replace bc1 := bc1.trans (bc13.mono bc1.size)
      replace q := q.trans (bc13.mono q.size)
      replace r4 := r4.up bc13
      replace qj := qj.trans (bc13.mono qj.size)
      replace rc7 := rc7.up bc13
      refine SS.val (R.move rfl rfl) rfl rfl ?_
      refine SS.val (R.ltT rfl rfl rfl (by omega)) rfl rfl ?_
      refine SS.val (R.move rfl rfl) rfl rfl ?_
      refine SS.skip rfl rfl ?_
      refine SS.skip rfl rfl ?_
      refine SS.skip rfl rfl ?_
      refine SS.skip rfl rfl ?_
      refine SS.skip rfl rfl ?_
      refine SS.skip rfl rfl ?_
      refine SS.val (R.pick rfl rfl rfl) rfl rfl ?_
      refine SS.nilQ ?_
      refine EE.thenN ?_
      refine CC.yes rfl ?_
      refine CC.region ?_
      refine LL.val (R.move rfl rfl) rfl rfl rfl ?_
      refine LL.val (R.load rfl rfl (I.ldNc (vs := [Value.int IntKind.i64 ↑kd, Value.int IntKind.i64 ↑nn]) (RowL.cells rc7 rfl) (by rfl) (by rfl))) rfl rfl rfl ?_
      have lc16 := r4.lt
      have lc17 := rc7.lt
      refine LL.lit (e := 46) [Value.int IntKind.i64 ↑kd, Value.int IntKind.i64 ↑nn] 1 rfl rfl (fun _ => by kernel_rfl) rfl rfl ?_
      intro Wc19 gc20 egc20 rc21 zc22 bc18
      replace bc13 := bc13.trans (bc18.mono bc13.size)
      replace bc4 := bc4.trans (bc18.mono bc4.size)
      replace bc1 := bc1.trans (bc18.mono bc1.size)
      replace q := q.trans (bc18.mono q.size)
      replace r4 := r4.up bc18
      replace qj := qj.trans (bc18.mono qj.size)
      replace rc7 := rc7.up bc18
      have yj := qj.size
      have u1 := H1 _ qj
      have u2 := H2 _ qj
      have yw := q.size
      refine LL.appendT2 rfl rfl ePc ElPa u1 (RowL.readsT (ts := [(kd, nn)]) ePc (by assumption) 1 (by simp)) (by simp only [maxLen, List.length_cons, List.length_nil]; omega) (by simp only [List.length_cons, List.length_nil]; omega) (by have := r4.lt; omega) rfl rfl ?_
      intro v1' W5 o1 gr1 hv1
      replace u2 := u2.apart gr1 hne
      replace q := q.grown gr1 (by omega) (fun g hg => by have := own_ge u1 g hg; omega)
      replace r4 := r4.grO gr1 (own_ne u1 (by omega))
      rw [← ht1] at o1
      have hne1 := ownNe1 hne hv1 (own_lt (H2 _ qj))
      have yg := gr1.size
      clear H1 H2 qj u1 hne hv1 gr1
      refine LL.val (R.move rfl rfl) rfl rfl rfl ?_
      refine LL.val (R.move rfl rfl) rfl rfl rfl ?_
      have ld1 := r4.lt
      refine LL.lit (e := 3) [Value.int IntKind.i64 ↑x] 1 rfl rfl (fun _ => by kernel_rfl) rfl rfl ?_
      intro Wd3 gd4 egd4 rd5 zd6 bd2
      replace o1 := o1.up bd2
      replace u2 := u2.up bd2
      replace q := q.trans (bd2.mono q.size)
      replace r4 := r4.up bd2
      have y2 := q.size
      refine LL.appendT2 rfl rfl eIc ElIn u2 (RowL.readsT (ts := [x]) eIc (by assumption) 1 (by simp)) (by simp only [maxLen, List.length_cons, List.length_nil]; omega) (by simp only [List.length_cons, List.length_nil]; omega) (by have := r4.lt; omega) rfl rfl ?_
      intro v2' W6 o2 gr2 hv2
      have hne2 := ownNe2 hne1 hv2 (own_lt o1)
      replace o1 := o1.apart2 gr2 hne1
      replace q := q.grown gr2 (by omega) (fun g hg => by have := own_ge u2 g hg; omega)
      replace r4 := r4.grO gr2 (own_ne u2 (by omega))
      rw [← ht2] at o2
      clear u2 hne1 hv2 gr2
      refine LL.val (R.assign rfl rfl) rfl rfl rfl ?_
      refine LL.val (R.assign rfl rfl) rfl rfl rfl ?_
      refine LL.nil ?_
      refine EE.inN ?_
      refine EE.thenN ?_
      refine CC.region ?_
      refine LL.val (R.move rfl rfl) rfl rfl rfl ?_
      refine LL.val (R.addNc rfl rfl rfl rfl (by omega)) rfl rfl rfl ?_
      refine LL.val (R.assign rfl rfl) rfl rfl rfl ?_
      refine LL.nil ?_
      exact EE.round (x + 1, 0 + 1, v1', v2') ⟨rfl, rfl, rfl, rfl, trivial⟩ ⟨by show x + 1 ≤ 64 * b; omega, hA', q, r4, o1, o2, hne2⟩ (by show 64 * b - (x + 1) < 64 * b - x; omega)
    | succ m =>
      obtain ⟨z, hz⟩ : ∃ z, L[m]? = some z := ⟨_, List.getElem?_eq_getElem (by omega)⟩
      rw [Nat.add_sub_cancel] at hdiff
      replace hdiff : ∀ y, L[m]? = some y → y.2 ≠ (kd, nn) := fun y h => hdiff y h (by omega)
      have hll : (ptsL (L.take (m + 1))).length = (m + 1) := by
        simp [ptsL]
        omega
      obtain ⟨av, cap, rfl, hcap⟩ := hr1.form hll
      have hgz : (ptsL (L.take (m + 1)))[m + 1 - 1]? = some z.2 := by
        rw [Nat.add_sub_cancel]
        simp [ptsL, hz]
      obtain ⟨bk, off, rfl, hbk, hcs⟩ := hr1.get ePc hgz
      have hcs : Cells W ⟨bk, off + (m + 1 - 1) * 2, none⟩ [.int .i64 (z.2.1 : Int), .int .i64 (z.2.2 : Int)] := hcs
      have hdz : ¬(z.2.1 = kd ∧ z.2.2 = nn) := fun e => hdiff z hz (Prod.ext e.1 e.2)
      have H1 : ∀ W', Below W.heap.size W W' → OwnsT eP 2 W' W2.heap.size 46 _ (ptsL (L.take (m + 1))) := fun W' h => o1.up h
      have H2 : ∀ W', Below W.heap.size W W' → OwnsT eI 1 W' W2.heap.size 3 v2 (atsL (L.take (m + 1))) := fun W' h => o2.up h
      have hl1 : (ptsL (L.take (m + 1))).length ≤ 8192 := by rw [hll]; omega
      have hl2 : (atsL (L.take (m + 1))).length ≤ 8192 := by simp [atsL]; omega
      clear hA hpf hlen hr1 hll o1 o2 hsc
      refine CC.seq ?_
      refine CC.seq ?_
      refine CC.region ?_
      refine LL.val (R.move rfl rfl) rfl rfl rfl ?_
      refine LL.val (R.field rfl rfl (I.fld rfl)) rfl rfl rfl ?_
      refine LL.val (R.field rfl rfl (I.fld rfl)) rfl rfl rfl ?_
      refine LL.val (R.load rfl rfl (I.ld1 rfl (RowL.cell r4 rfl))) rfl rfl rfl ?_
      refine LL.val (R.mulcN rfl rfl rfl rfl (by omega)) rfl rfl rfl ?_
      refine LL.val (R.ltT rfl rfl rfl (by omega)) rfl rfl rfl ?_
      refine LL.nilS ?_
      refine CC.yes rfl ?_
      refine CC.skip ?_
      refine EE.thenN ?_
      refine CC.seq ?_
      refine CC.block ?_
      refine CC.seq ?_
      refine CC.region ?_
      refine LL.val (R.load rfl rfl (I.ldNc (vs := [Value.int IntKind.i64 ↑b, Value.int IntKind.i64 ↑i, Value.int IntKind.i64 ↑r, Value.int IntKind.i64 ↑t, Value.int IntKind.u64 ↑k1, Value.int IntKind.u64 ↑k2, Value.int IntKind.i64 a, Value.int IntKind.i64 c, Value.int IntKind.i64 d, Value.int IntKind.i64 e]) (RowL.cells r4 rfl) (by rfl) (by rfl))) rfl rfl rfl ?_
      refine LL.val (R.move rfl rfl) rfl rfl rfl ?_
      refine LL.call (R.call rfl rfl rfl) rfl rfl rfl (hpart _) ?_
      rintro e Wf2 ⟨rfl, bf1⟩
      refine ⟨_, rfl, ?_⟩
      have zbf1 := bf1.size
      replace q := q.trans (bf1.mono q.size)
      replace r4 := r4.up bf1
      replace qj := qj.trans (bf1.mono qj.size)
      replace hcs := hcs.up bf1
      have lf3 := r4.lt
      refine LL.alloc ([Value.int IntKind.i64 0, Value.int IntKind.i64 0]) rfl rfl rfl rfl rfl ?_
      intro Wf5 gf6 egf6 rf7 zf8 bf4
      replace bf1 := bf1.trans (bf4.mono bf1.size)
      replace q := q.trans (bf4.mono q.size)
      replace r4 := r4.up bf4
      replace qj := qj.trans (bf4.mono qj.size)
      replace hcs := hcs.up bf4
      refine LL.storeN (vs := [Value.int IntKind.i64 ↑kd, Value.int IntKind.i64 ↑nn]) rfl rfl rfl rfl rf7 (by exact Nat.le_of_ble_eq_true rfl) (ones_of rfl) rfl rfl ?_
      intro Wf10 rf11 bf9 zf12
      have hlbf9 := rf7.lt
      replace rf11 : RowL Wf10 _ 46 [Value.int IntKind.i64 ↑kd, Value.int IntKind.i64 ↑nn] := rf11
      clear rf7
      replace bf4 := bf4.grown bf9 bf4.size (by rintro k ⟨⟩; omega)
      replace bf1 := bf1.grown bf9 bf1.size (by rintro k ⟨⟩; omega)
      replace q := q.grown bf9 q.size (by rintro k ⟨⟩; omega)
      replace r4 := r4.gr bf9 (by have := r4.lt; omega)
      replace qj := qj.grown bf9 qj.size (by rintro k ⟨⟩; omega)
      replace hcs := hcs.gr bf9 (by omega)
      have rf7 := rf11
      clear rf11
      refine LL.nilS ?_
      refine CC.seq ?_
      refine CC.region ?_
      refine LL.val (R.move rfl rfl) rfl rfl rfl ?_
      refine LL.val (R.len rfl rfl rfl rfl) rfl rfl rfl ?_
      refine LL.val (R.subNc rfl rfl rfl rfl (by omega) (by omega)) rfl rfl rfl ?_
      refine LL.val (R.assign rfl rfl) rfl rfl rfl ?_
      refine LL.nilS ?_
      refine CC.seq ?_
      refine CC.quietB (by kernel_rfl) (by kernel_rfl) (fun Wf14 bf13 zf15 => ?_)
      replace bf4 := bf4.trans (bf13.mono bf4.size)
      replace bf1 := bf1.trans (bf13.mono bf1.size)
      replace q := q.trans (bf13.mono q.size)
      replace r4 := r4.up bf13
      replace qj := qj.trans (bf13.mono qj.size)
      replace hcs := hcs.up bf13
      replace rf7 := rf7.up bf13
      refine SS.val (R.move rfl rfl) rfl rfl ?_
      refine SS.val (R.ltF rfl rfl rfl (by omega)) rfl rfl ?_
      refine SS.val (R.move rfl rfl) rfl rfl ?_
      refine SS.val (R.move rfl rfl) rfl rfl ?_
      refine SS.val (R.move rfl rfl) rfl rfl ?_
      refine SS.val (R.index rfl rfl rfl (I.ixS rfl (by omega))) rfl rfl ?_
      refine SS.val (R.load rfl rfl (I.ldNc (by assumption) rfl rfl)) rfl rfl ?_
      refine SS.val (R.load rfl rfl (I.ldNc (vs := [Value.int IntKind.i64 ↑kd, Value.int IntKind.i64 ↑nn]) (RowL.cells rf7 rfl) (by rfl) (by rfl))) rfl rfl ?_
      refine SS.val (R.neSF (p := (↑z.2.1 : Int) = ↑kd ∧ (↑z.2.2 : Int) = ↑nn) (bs := [decide ((↑z.2.1 : Int) = ↑kd), decide ((↑z.2.2 : Int) = ↑nn)]) rfl rfl rfl rfl (by kernel_rfl) (by kernel_rfl) (by simp) (by first | assumption | omega)) rfl rfl ?_
      refine SS.val (R.pick rfl rfl rfl) rfl rfl ?_
      refine SS.nilQ ?_
      refine EE.thenN ?_
      refine CC.yes rfl ?_
      refine CC.region ?_
      refine LL.val (R.move rfl rfl) rfl rfl rfl ?_
      refine LL.val (R.load rfl rfl (I.ldNc (vs := [Value.int IntKind.i64 ↑kd, Value.int IntKind.i64 ↑nn]) (RowL.cells rf7 rfl) (by rfl) (by rfl))) rfl rfl rfl ?_
      have lf16 := r4.lt
      have lf17 := rf7.lt
      refine LL.lit (e := 46) [Value.int IntKind.i64 ↑kd, Value.int IntKind.i64 ↑nn] 1 rfl rfl (fun _ => by kernel_rfl) rfl rfl ?_
      intro Wf19 gf20 egf20 rf21 zf22 bf18
      replace bf13 := bf13.trans (bf18.mono bf13.size)
      replace bf4 := bf4.trans (bf18.mono bf4.size)
      replace bf1 := bf1.trans (bf18.mono bf1.size)
      replace q := q.trans (bf18.mono q.size)
      replace r4 := r4.up bf18
      replace qj := qj.trans (bf18.mono qj.size)
      replace hcs := hcs.up bf18
      replace rf7 := rf7.up bf18
      have yj := qj.size
      have u1 := H1 _ qj
      have u2 := H2 _ qj
      have yw := q.size
      refine LL.appendT2 rfl rfl ePc ElPa u1 (RowL.readsT (ts := [(kd, nn)]) ePc (by assumption) 1 (by simp)) (by simp only [maxLen, List.length_cons, List.length_nil]; omega) (by simp only [List.length_cons, List.length_nil]; omega) (by have := r4.lt; omega) rfl rfl ?_
      intro v1' W5 o1 gr1 hv1
      replace u2 := u2.apart gr1 hne
      replace q := q.grown gr1 (by omega) (fun g hg => by have := own_ge u1 g hg; omega)
      replace r4 := r4.grO gr1 (own_ne u1 (by omega))
      rw [← ht1] at o1
      have hne1 := ownNe1 hne hv1 (own_lt (H2 _ qj))
      have yg := gr1.size
      clear H1 H2 qj u1 hne hv1 gr1
      refine LL.val (R.move rfl rfl) rfl rfl rfl ?_
      refine LL.val (R.move rfl rfl) rfl rfl rfl ?_
      have lg1 := r4.lt
      refine LL.lit (e := 3) [Value.int IntKind.i64 ↑x] 1 rfl rfl (fun _ => by kernel_rfl) rfl rfl ?_
      intro Wg3 gg4 egg4 rg5 zg6 bg2
      replace o1 := o1.up bg2
      replace u2 := u2.up bg2
      replace q := q.trans (bg2.mono q.size)
      replace r4 := r4.up bg2
      have y2 := q.size
      refine LL.appendT2 rfl rfl eIc ElIn u2 (RowL.readsT (ts := [x]) eIc (by assumption) 1 (by simp)) (by simp only [maxLen, List.length_cons, List.length_nil]; omega) (by simp only [List.length_cons, List.length_nil]; omega) (by have := r4.lt; omega) rfl rfl ?_
      intro v2' W6 o2 gr2 hv2
      have hne2 := ownNe2 hne1 hv2 (own_lt o1)
      replace o1 := o1.apart2 gr2 hne1
      replace q := q.grown gr2 (by omega) (fun g hg => by have := own_ge u2 g hg; omega)
      replace r4 := r4.grO gr2 (own_ne u2 (by omega))
      rw [← ht2] at o2
      clear u2 hne1 hv2 gr2
      refine LL.val (R.assign rfl rfl) rfl rfl rfl ?_
      refine LL.val (R.assign rfl rfl) rfl rfl rfl ?_
      refine LL.nil ?_
      refine EE.inN ?_
      refine EE.thenN ?_
      refine CC.region ?_
      refine LL.val (R.move rfl rfl) rfl rfl rfl ?_
      refine LL.val (R.addNc rfl rfl rfl rfl (by omega)) rfl rfl rfl ?_
      refine LL.val (R.assign rfl rfl) rfl rfl rfl ?_
      refine LL.nil ?_
      exact EE.round (x + 1, m + 1 + 1, v1', v2') ⟨rfl, rfl, rfl, rfl, trivial⟩ ⟨by show x + 1 ≤ 64 * b; omega, hA', q, r4, o1, o2, hne2⟩ (by show 64 * b - (x + 1) < 64 * b - x; omega)
end Go.Proofs.Ythdgnogpjpoklaa
