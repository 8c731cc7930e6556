/- ExtentsEach. -/
import Derived.Test.YtklfopclaonggaaDoorEx24
namespace Go.Proofs.YtklfopclaonggaaDoor
set_option linter.unusedVariables false
set_option linter.unusedSimpArgs false
open Go.RowKit Go.Shelf
def iE (z : Int) : List Value := [.int .i64 z]
theorem iEnc : Enc iE 1 := ⟨fun _ => rfl, fun t u hu => by
  obtain rfl := List.mem_singleton.1 hu
  rfl, by decide⟩
theorem Tryd.infoInt : (Tryd.prog.info? 3).map (fun i => (i.zero, i.size, i.bytes)) = some (some (.int .i64 0), 1, 8) := by kernel_rfl
theorem ElIn : ElT Tryd.prog 36 3 (.int .i64 0) 1 8 := info_parts_t Tryd.underlying36 Tryd.infoInt rfl
/-- What stands ahead of the ranges. -/
structure LvE (W w : World) (gk gr gm gw gt : Nat) (many : Int) (p : List Int) (v : Value) (s : List Bl) (tv : Int) : Prop where
  rk : RowL W gk 3 [.int .i64 many]
  rr : RowL W gr 4 [.bool false]
  rm : RowL W gm 25 (intsZ .i64 p)
  rw : RowL W gw 36 [v]
  rt : RowL W gt 3 [.int .i64 tv]
  rd : ReadsT iE 1 W v (s.map (·.1))
  bel : Below w.heap.size w W
theorem LvE.lift {W W' w : World} {gk gr gm gw gt : Nat} {many : Int} {p : List Int} {v : Value} {s : List Bl} {tv : Int} (h : LvE W w gk gr gm gw gt many p v s tv) (hb : Below W.heap.size W W') : LvE W' w gk gr gm gw gt many p v s tv :=
  ⟨h.rk.up hb, h.rr.up hb, h.rm.up hb, h.rw.up hb, h.rt.up hb, h.rd.up hb, h.bel.trans (hb.mono h.bel.size)⟩
set_option maxRecDepth 100000 in
set_option maxHeartbeats 8000000 in
theorem eachx_big (v : Value) (l : List Ex) (many : Int) (w : World) (hs : Start w) (hv : ReadsT eE 3 w v l) (h : 30 < l.length) : Calls Tryd.prog 4 #[v, .int .i64 many] w fun e w' => e = .returned (.bool true) ∧ Below w.heap.size w w' := by
  have q := Below.refl w.heap.size w
  obtain ⟨N, hN⟩ : ∃ N, l.length = N := ⟨_, rfl⟩
  obtain ⟨a, cap, rfl, hcap⟩ := hv.form hN
  have hsF : ∀ W, Below w.heap.size w W → Start W := fun W hb => hs.up hb
  clear hs hv
  rw [hN] at h
  refine X.fnM Tryd.func4 rfl (n := 100) rfl rfl ?_
  refine CC.seq ?_
  refine CC.region ?_
  refine LL.box [Value.int IntKind.i64 many] rfl rfl rfl rfl rfl ?_
  intro W2 g3 eg3 r4 z5 b1
  replace q := q.trans (b1.mono q.size)
  have l6 := r4.lt
  refine LL.alloc ([Value.bool false]) rfl rfl rfl rfl rfl ?_
  intro W8 g9 eg9 r10 z11 b7
  replace r4 := r4.up b7
  replace b1 := b1.trans (b7.mono b1.size)
  replace q := q.trans (b7.mono q.size)
  refine LL.nilS ?_
  refine CC.seq ?_
  refine CC.seq ?_
  refine CC.region ?_
  refine LL.val (R.move rfl rfl) rfl rfl rfl ?_
  refine LL.val (R.len rfl rfl rfl rfl) rfl rfl rfl ?_
  refine LL.val (R.gtT rfl rfl rfl (by omega)) rfl rfl rfl ?_
  refine LL.nilS ?_
  refine CC.yes rfl ?_
  refine CC.seq ?_
  refine CC.region ?_
  refine LL.call (R.call rfl rfl rfl) rfl rfl rfl (works_any _ (hsF _ q)) ?_
  rintro e W13 ⟨rfl, b12⟩
  refine ⟨_, rfl, ?_⟩
  have zb12 := b12.size
  replace r10 := r10.up b12
  replace b7 := b7.trans (b12.mono b7.size)
  replace r4 := r4.up b12
  replace b1 := b1.trans (b12.mono b1.size)
  replace q := q.trans (b12.mono q.size)
  refine LL.store rfl rfl rfl rfl r10 (by exact Nat.le_of_ble_eq_true rfl) rfl rfl rfl rfl ?_
  intro W16 r17 b15 z18
  have hlb15 := r10.lt
  replace r17 : RowL W16 _ 4 [Value.bool true] := r17
  clear r10
  replace b7 := b7.grown b15 b7.size (by rintro k ⟨⟩; omega)
  replace r4 := r4.gr b15 (by have := r4.lt; omega)
  replace b1 := b1.grown b15 b1.size (by rintro k ⟨⟩; omega)
  replace q := q.grown b15 q.size (by rintro k ⟨⟩; omega)
  have r10 := r17
  clear r17
  refine LL.nilS ?_
  refine CC.ret ?_
  refine EE.thenR ?_
  refine EE.retM1 rfl ⟨_, rfl, lv1 rfl (RowL.cell (by assumption) rfl)⟩ ?_
  exact ⟨rfl, q⟩
set_option maxRecDepth 100000 in
set_option maxHeartbeats 16000000 in
theorem eachx_T (v : Value) (l : List Ex) (many : Int) (w : World) (hs : Start w) (hv : ReadsT eE 3 w v l) (h30 : l.length ≤ 30) (h : vL l) : Calls Tryd.prog 4 #[v, .int .i64 many] w fun e w' => e = .returned (.bool true) ∧ Below w.heap.size w w' := by
  have q := Below.refl w.heap.size w
  obtain ⟨N, hN⟩ : ∃ N, l.length = N := ⟨_, rfl⟩
  obtain ⟨a, cap, rfl, hcap⟩ := hv.form hN
  have hvF : ∀ W, Below w.heap.size w W → ReadsT eE 3 W (.slice a N cap) l := fun W hb => hv.up hb
  have hsF : ∀ W, Below w.heap.size w W → Start W := fun W hb => hs.up hb
  clear hs hv
  rw [hN] at h30
  have hlen : l.length ≤ 1048576 := by omega
  have hpl := plL_len l
  refine X.fnM Tryd.func4 rfl (n := 100) rfl rfl ?_
  refine CC.seq ?_
  refine CC.region ?_
  refine LL.box [Value.int IntKind.i64 many] rfl rfl rfl rfl rfl ?_
  intro W2 g3 eg3 r4 z5 b1
  replace q := q.trans (b1.mono q.size)
  have l6 := r4.lt
  refine LL.alloc ([Value.bool false]) rfl rfl rfl rfl rfl ?_
  intro W8 g9 eg9 r10 z11 b7
  replace r4 := r4.up b7
  replace b1 := b1.trans (b7.mono b1.size)
  replace q := q.trans (b7.mono q.size)
  refine LL.nilS ?_
  refine CC.seq ?_
  refine CC.seq ?_
  refine CC.region ?_
  refine LL.val (R.move rfl rfl) rfl rfl rfl ?_
  refine LL.val (R.len rfl rfl rfl rfl) rfl rfl rfl ?_
  refine LL.val (R.gtF rfl rfl rfl (by omega)) rfl rfl rfl ?_
  refine LL.nilS ?_
  refine CC.no rfl ?_
  refine CC.skip ?_
  refine EE.thenN ?_
  refine CC.seq ?_
  refine CC.region ?_
  refine LL.val (R.move rfl rfl) rfl rfl rfl ?_
  refine LL.call (R.call rfl rfl rfl) rfl rfl rfl (rof_T l _ _ (hvF _ q) hlen h) ?_
  rintro e W13 ⟨rfl, b12⟩
  refine ⟨_, rfl, ?_⟩
  have zb12 := b12.size
  replace r10 := r10.up b12
  replace b7 := b7.trans (b12.mono b7.size)
  replace r4 := r4.up b12
  replace b1 := b1.trans (b12.mono b1.size)
  replace q := q.trans (b12.mono q.size)
  refine LL.val (R.move rfl rfl) rfl rfl rfl ?_
  refine LL.val (R.extract rfl rfl rfl) rfl rfl rfl ?_
  refine LL.val (R.extract rfl rfl rfl) rfl rfl rfl ?_
  have l15 := r10.lt
  have l16 := r4.lt
  refine LL.alloc (intsZ .i64 (List.replicate 128 0)) rfl rfl rfl rfl rfl ?_
  intro W18 g19 eg19 r20 z21 b17
  replace b12 := b12.trans (b17.mono b12.size)
  replace r10 := r10.up b17
  replace b7 := b7.trans (b17.mono b7.size)
  replace r4 := r4.up b17
  replace b1 := b1.trans (b17.mono b1.size)
  replace q := q.trans (b17.mono q.size)
  refine LL.storeAZ rfl rfl rfl rfl (by first | assumption | exact List.length_replicate | exact plL_len _ | exact plOf_len _ | simp) r20 (by first | (rw [List.length_map]; exact (by first | assumption | exact List.length_replicate | exact plL_len _ | exact plOf_len _ | simp)) | simp) rfl rfl ?_
  intro W23 r24 b22 z25
  have hlb22 := r20.lt
  clear r20
  replace b17 := b17.grown b22 b17.size (by rintro k ⟨⟩; omega)
  replace b12 := b12.grown b22 b12.size (by rintro k ⟨⟩; omega)
  replace r10 := r10.gr b22 (by have := r10.lt; omega)
  replace b7 := b7.grown b22 b7.size (by rintro k ⟨⟩; omega)
  replace r4 := r4.gr b22 (by have := r4.lt; omega)
  replace b1 := b1.grown b22 b1.size (by rintro k ⟨⟩; omega)
  replace q := q.grown b22 q.size (by rintro k ⟨⟩; omega)
  have r20 := r24
  clear r24
  refine LL.val (R.assign rfl rfl) rfl rfl rfl ?_
  refine LL.nilS ?_
  refine CC.seq ?_
  refine CC.region ?_
  have l26 := r10.lt
  have l27 := r4.lt
  have l28 := r20.lt
  refine LL.alloc ([Value.slice none 0 0]) rfl rfl rfl rfl rfl ?_
  intro W30 g31 eg31 r32 z33 b29
  replace b17 := b17.trans (b29.mono b17.size)
  replace b12 := b12.trans (b29.mono b12.size)
  replace r10 := r10.up b29
  replace b7 := b7.trans (b29.mono b7.size)
  replace r4 := r4.up b29
  replace b1 := b1.trans (b29.mono b1.size)
  replace q := q.trans (b29.mono q.size)
  replace r20 := r20.up b29
  refine LL.nilS ?_
  refine CC.seq ?_
  refine CC.seq ?_
  refine CC.region ?_
  refine LL.val (R.assign rfl rfl) rfl rfl rfl ?_
  refine LL.nilS ?_
  refine CC.block ?_
  have l31 := r32.lt
  have yq := q.size
  have hw3 : w.heap.size ≤ g3 := by omega
  have h39 : g3 < g9 := by omega
  have h919 : g9 < g19 := by omega
  have h1931 : g19 < g31 := by omega
  refine CC.loop (α := Nat × Value) (fun s => [(0, .slice a N cap), (3, .pointer (some ⟨g3, 0, none⟩)), (4, .pointer (some ⟨g9, 0, none⟩)), (5, .pointer (some ⟨g19, 0, none⟩)), (6, .bool true), (7, .pointer (some ⟨g31, 0, none⟩)), (8, .int .i64 (s.1 : Int))]) (fun s W => s.1 ≤ 128 ∧ Below w.heap.size w W ∧ g31 + 1 ≤ W.heap.size ∧ RowL W g3 3 [.int .i64 many] ∧ RowL W g9 4 [.bool false] ∧ RowL W g19 25 (intsZ .i64 (plL l)) ∧ RowL W g31 36 [s.2] ∧ OwnsT iE 1 W (g31 + 1) 3 s.2 ((nzF (plL l) s.1).map (·.1))) (fun s => 128 - s.1) (0, .slice none 0 0) ⟨rfl, rfl, rfl, rfl, rfl, rfl, rfl, trivial⟩ ⟨by show 0 ≤ 128; omega, q, by omega, r4, r10, r20, r32, OwnsT.none _ _ _⟩ ?_
  clear q r4 r10 r20 r32 b29 b17 b12 b7 b1 b22 yq l6 l15 l16 l26 l27 l28 hlb22
  rintro ⟨i, v⟩ W ⟨hi, q, yB, r4, r10, r20, r32, o⟩
  simp only at hi o r32
  show CC none Tryd.prog _ 100 [] (sl [(0, .slice a N cap), (3, .pointer (some ⟨g3, 0, none⟩)), (4, .pointer (some ⟨g9, 0, none⟩)), (5, .pointer (some ⟨g19, 0, none⟩)), (6, .bool true), (7, .pointer (some ⟨g31, 0, none⟩)), (8, .int .i64 (i : Int))]) _ W
  have yq := q.size
  by_cases hlt : i < 128
  case pos =>
    obtain ⟨z, hz⟩ : ∃ z, (plL l)[i]? = some z := ⟨_, List.getElem?_eq_getElem (by omega)⟩
    have c1 : W.cell? ⟨g19, 0 + i, none⟩ = some (.int .i64 z) := RowL.cell r20 (by rw [show 0 + i = i by omega]; simp [hz])
    have hs := nzF_succ (plL l) i
    rw [hz] at hs
    simp only [Option.getD_some] at hs
    have hln := nzF_len (plL l) i
    by_cases h0 : z = 0
    · rw [if_pos h0, List.append_nil] at hs
      refine CC.seq ?_
      refine CC.seq ?_
      refine CC.region ?_
      refine LL.val (R.move rfl rfl) rfl rfl rfl ?_
      refine LL.val (R.ltT rfl rfl rfl (by omega)) rfl rfl rfl ?_
      refine LL.val (R.move rfl rfl) rfl rfl rfl ?_
      refine LL.val (R.move rfl rfl) rfl rfl rfl ?_
      refine LL.val (R.pick rfl rfl rfl) rfl rfl rfl ?_
      refine LL.nilS ?_
      refine CC.yes rfl ?_
      refine CC.skip ?_
      refine EE.thenN ?_
      refine CC.seq ?_
      refine CC.block ?_
      refine CC.seq ?_
      refine CC.region ?_
      refine LL.val (R.move rfl rfl) rfl rfl rfl ?_
      refine LL.val (R.index rfl rfl rfl (I.ixA1 rfl (by omega))) rfl rfl rfl ?_
      refine LL.val (R.load rfl rfl (I.ld1 rfl (by assumption))) rfl rfl rfl ?_
      refine LL.val (R.neF rfl rfl rfl (by omega)) rfl rfl rfl ?_
      refine LL.nilS ?_
      refine CC.no rfl ?_
      refine CC.skip ?_
      refine EE.inN ?_
      refine EE.thenN ?_
      refine CC.region ?_
      refine LL.val (R.move rfl rfl) rfl rfl rfl ?_
      refine LL.val (R.addNc rfl rfl rfl rfl (by omega)) rfl rfl rfl ?_
      refine LL.val (R.assign rfl rfl) rfl rfl rfl ?_
      refine LL.nil ?_
      exact EE.round (i + 1, v) ⟨rfl, rfl, rfl, rfl, rfl, rfl, rfl, trivial⟩ ⟨by show i + 1 ≤ 128; omega, q, by omega, r4, r10, r20, r32, by show OwnsT iE 1 _ _ _ v ((nzF (plL l) (i + 1)).map (·.1)); rw [hs]; exact o⟩ (by show 128 - (i + 1) < 128 - i; omega)
    · rw [if_neg h0] at hs
      have hm := congrArg (List.map (·.1)) hs
      rw [List.map_append] at hm
      refine CC.seq ?_
      refine CC.seq ?_
      refine CC.region ?_
      refine LL.val (R.move rfl rfl) rfl rfl rfl ?_
      refine LL.val (R.ltT rfl rfl rfl (by omega)) rfl rfl rfl ?_
      refine LL.val (R.move rfl rfl) rfl rfl rfl ?_
      refine LL.val (R.move rfl rfl) rfl rfl rfl ?_
      refine LL.val (R.pick rfl rfl rfl) rfl rfl rfl ?_
      refine LL.nilS ?_
      refine CC.yes rfl ?_
      refine CC.skip ?_
      refine EE.thenN ?_
      refine CC.seq ?_
      refine CC.block ?_
      refine CC.seq ?_
      refine CC.region ?_
      refine LL.val (R.move rfl rfl) rfl rfl rfl ?_
      refine LL.val (R.index rfl rfl rfl (I.ixA1 rfl (by omega))) rfl rfl rfl ?_
      refine LL.val (R.load rfl rfl (I.ld1 rfl (by assumption))) rfl rfl rfl ?_
      refine LL.val (R.neT rfl rfl rfl (by omega)) rfl rfl rfl ?_
      refine LL.nilS ?_
      refine CC.yes rfl ?_
      refine CC.region ?_
      refine LL.val (R.load rfl rfl (I.ld1 rfl (RowL.cell r32 rfl))) rfl rfl rfl ?_
      refine LL.val (R.move rfl rfl) rfl rfl rfl ?_
      have lb1 := r4.lt
      have lb2 := r10.lt
      have lb3 := r20.lt
      have lb4 := r32.lt
      refine LL.lit (e := 3) [Value.int IntKind.i64 ↑i] 1 rfl rfl (fun _ => by kernel_rfl) rfl rfl ?_
      intro Wb6 gb7 egb7 rb8 zb9 bb5
      replace q := q.trans (bb5.mono q.size)
      replace r4 := r4.up bb5
      replace r10 := r10.up bb5
      replace r20 := r20.up bb5
      replace r32 := r32.up bb5
      replace o := o.up bb5
      replace c1 := cell_up c1 bb5
      have yq := q.size
      have hn3 := own_ne o (g := g3) (by omega)
      have hn9 := own_ne o (g := g9) (by omega)
      have hn19 := own_ne o (g := g19) (by omega)
      have hn31 := own_ne o (g := g31) (by omega)
      refine LL.appendT2 rfl rfl iEnc ElIn o (RowL.readsT (ts := [((i : Int))]) iEnc (by assumption) 1 (by simp)) (by simp [maxLen]; omega) (by simp; omega) (by omega) rfl rfl ?_
      intro v' Wa oa gra hva
      replace q := q.grown gra (by omega) (fun g hg => by have := own_ge o g hg; omega)
      replace r4 := r4.grO gra hn3
      replace r10 := r10.grO gra hn9
      replace r20 := r20.grO gra hn19
      replace r32 := r32.grO gra hn31
      have hsz := gra.size
      have yq := q.size
      rw [show (nzF (plL l) i).map (·.1) ++ [(i : Int)] = (nzF (plL l) (i + 1)).map (·.1) from hm.symm] at oa
      clear o c1 gra
      obtain ⟨a', cp, rfl, hcp⟩ := (oa.reads iEnc).form rfl
      refine LL.store rfl rfl rfl rfl r32 (by exact Nat.le_of_ble_eq_true rfl) rfl rfl rfl rfl ?_
      intro Wc2 rc3 bc1 zc4
      have hlbc1 := r32.lt
      replace rc3 : RowL Wc2 _ 36 [Value.slice a' (List.map (fun x => x.1) (nzF (plL l) (i + 1))).length cp] := rc3
      clear r32
      replace q := q.grown bc1 q.size (by rintro k ⟨⟩; omega)
      replace r4 := r4.gr bc1 (by have := r4.lt; omega)
      replace r10 := r10.gr bc1 (by have := r10.lt; omega)
      replace r20 := r20.gr bc1 (by have := r20.lt; omega)
      replace oa := oa.grown bc1 (own_ne oa (by omega))
      have r32 := rc3
      clear rc3
      refine LL.nil ?_
      refine EE.inN ?_
      refine EE.thenN ?_
      refine CC.region ?_
      refine LL.val (R.move rfl rfl) rfl rfl rfl ?_
      refine LL.val (R.addNc rfl rfl rfl rfl (by omega)) rfl rfl rfl ?_
      refine LL.val (R.assign rfl rfl) rfl rfl rfl ?_
      refine LL.nil ?_
      exact EE.round (i + 1, _) ⟨rfl, rfl, rfl, rfl, rfl, rfl, rfl, trivial⟩ ⟨by show i + 1 ≤ 128; omega, q, by omega, r4, r10, r20, r32, oa⟩ (by show 128 - (i + 1) < 128 - i; omega)
  obtain rfl : i = 128 := by omega
  rw [show nzF (plL l) 128 = blS l from vL_nz h] at o
  have hrd := o.reads iEnc
  clear o
  refine CC.seq ?_
  refine CC.seq ?_
  refine CC.region ?_
  refine LL.val (R.move rfl rfl) rfl rfl rfl ?_
  refine LL.val (R.ltF rfl rfl rfl (by omega)) rfl rfl rfl ?_
  refine LL.val (R.move rfl rfl) rfl rfl rfl ?_
  refine LL.skip rfl rfl ?_
  refine LL.val (R.pick rfl rfl rfl) rfl rfl rfl ?_
  refine LL.nilS ?_
  refine CC.no rfl ?_
  refine CC.exit ?_
  refine EE.thenX ?_
  refine EE.thenX ?_
  refine EE.inX ?_
  refine EE.thenN ?_
  refine CC.seq ?_
  refine CC.region ?_
  refine LL.val (R.move rfl rfl) rfl rfl rfl ?_
  have yq := q.size
  refine LL.call (R.call rfl rfl rfl) rfl rfl rfl (each_any l _ _ (hvF _ q) hlen) ?_
  rintro e W5 ⟨bk, a5, c5, rfl, rb, hr, hbk, hbo, b5⟩
  refine ⟨_, rfl, ?_⟩
  replace q := q.trans (b5.mono q.size)
  replace r4 := r4.up b5
  replace r10 := r10.up b5
  replace r20 := r20.up b5
  replace r32 := r32.up b5
  have hrdF := fun W' (hb : Below W5.heap.size W5 W') => (hrd.up b5).up hb
  have hrF := fun W' (hb : Below W5.heap.size W5 W') => hr.up hb
  have y5 := b5.size
  have lb := rb.lt
  clear b5 hr hrd
  refine LL.val (R.assign rfl rfl) rfl rfl rfl ?_
  refine LL.nilS ?_
  refine CC.seq ?_
  refine CC.seq ?_
  refine CC.region ?_
  refine LL.val (R.move rfl rfl) rfl rfl rfl ?_
  refine LL.val (R.eqFn rfl rfl rfl rfl) rfl rfl rfl ?_
  refine LL.nilS ?_
  refine CC.no rfl ?_
  refine CC.skip ?_
  refine EE.thenN ?_
  refine CC.seq ?_
  refine CC.seq ?_
  refine CC.region ?_
  have le1 := rb.lt
  have le2 := r4.lt
  have le3 := r10.lt
  have le4 := r20.lt
  have le5 := r32.lt
  refine LL.alloc ([Value.int IntKind.i64 0]) rfl rfl rfl rfl rfl ?_
  intro We7 ge8 ege8 re9 ze10 be6
  replace rb := rb.up be6
  replace q := q.trans (be6.mono q.size)
  replace r4 := r4.up be6
  replace r10 := r10.up be6
  replace r20 := r20.up be6
  replace r32 := r32.up be6
  refine LL.store rfl rfl rfl rfl re9 (by exact Nat.le_of_ble_eq_true rfl) rfl rfl rfl rfl ?_
  intro We12 re13 be11 ze14
  have hlbe11 := re9.lt
  replace re13 : RowL We12 _ 3 [Value.int IntKind.i64 0] := re13
  clear re9
  replace be6 := be6.grown be11 be6.size (by rintro k ⟨⟩; omega)
  replace rb := rb.gr be11 (by have := rb.lt; omega)
  replace q := q.grown be11 q.size (by rintro k ⟨⟩; omega)
  replace r4 := r4.gr be11 (by have := r4.lt; omega)
  replace r10 := r10.gr be11 (by have := r10.lt; omega)
  replace r20 := r20.gr be11 (by have := r20.lt; omega)
  replace r32 := r32.gr be11 (by have := r32.lt; omega)
  have re9 := re13
  clear re13
  refine LL.nilS ?_
  refine CC.block ?_
  have hr := hrF _ be6
  have hrd := hrdF _ be6
  obtain ⟨bkl, hbl, hbB, hblt⟩ := bkl_own hr rfl hbo hbk rb.lt
  have hG := blocks_gives (eL l) (eL_v l).2.1 a5 _ c5 bk bkl We12 rfl (by have := (eL_v l).1; omega) rb hr hbl
  rw [eL_T h] at hG
  have hK128 : (blS l).length ≤ 128 := by rw [← vL_nz h]; exact nzF_len _ _
  obtain ⟨L, hL⟩ : ∃ L, blS l = L := ⟨_, rfl⟩
  have hLp : ∀ b ∈ L, (plL l)[b.1.toNat]? = some b.2 ∧ 0 ≤ b.1 ∧ b.1 < 128 := fun b hb => by
    rw [← hL, ← vL_nz h] at hb
    obtain ⟨j, h1, h2, h3⟩ := (nz_mem hpl).1 hb
    have := (List.getElem?_eq_some_iff.1 h1).1
    exact ⟨by rw [show b.1.toNat = j by omega]; exact h1, by omega, by omega⟩
  rw [hL] at hG hrd hK128
  obtain ⟨K, hK⟩ : ∃ K, L.length = K := ⟨_, rfl⟩
  have hKv : (L.map (·.1)).length = K := by rw [List.length_map, hK]
  obtain ⟨av, cv, rfl, hcv⟩ := hrd.form hKv
  rw [hK] at hK128
  have qB := Below.refl We12.heap.size We12
  refine CC.keep [(3, .pointer (some ⟨g3, 0, none⟩)), (4, .pointer (some ⟨g9, 0, none⟩)), (5, .pointer (some ⟨g19, 0, none⟩)), (7, .pointer (some ⟨g31, 0, none⟩)), (9, .func (.func 45) #[] [Value.pointer (some ⟨bk, 0, none⟩)].toArray), (10, .pointer (some ⟨ge8, 0, none⟩))] ⟨rfl, rfl, rfl, rfl, rfl, rfl, trivial⟩ ?_
  refine CC.loopN 3 ?_
  have hV : LvE We12 w g3 g9 g19 g31 ge8 many (plL l) (.slice av K cv) L 0 := ⟨r4, r10, r20, r32, re9, hrd, q⟩
  have jsz := q.size
  have j31 := r32.lt
  have j8 := re9.lt
  clear hrd r20 r32 r10 r4 hrF hrdF hr rb be6
  refine RN.step ?_
  refine CC.seq ?_
  refine CC.seq ?_
  refine CC.region ?_
  refine LL.val (R.load rfl rfl (I.ld1 rfl (RowL.cell re9 rfl))) rfl rfl rfl ?_
  refine LL.val (R.ltT rfl rfl rfl (by omega)) rfl rfl rfl ?_
  refine LL.nilS ?_
  refine CC.yes rfl ?_
  refine CC.skip ?_
  refine EE.thenN ?_
  refine CC.seq ?_
  refine CC.block ?_
  refine CC.seq ?_
  refine CC.region ?_
  have lf1 := re9.lt
  refine LL.alloc ([Value.int IntKind.i64 0]) rfl rfl rfl rfl rfl ?_
  intro Wf3 gf4 egf4 rf5 zf6 bf2
  replace q := q.trans (bf2.mono q.size)
  replace re9 := re9.up bf2
  replace qB := qB.trans (bf2.mono qB.size)
  refine LL.store rfl rfl rfl rfl rf5 (by exact Nat.le_of_ble_eq_true rfl) rfl rfl rfl rfl ?_
  intro Wf8 rf9 bf7 zf10
  have hlbf7 := rf5.lt
  replace rf9 : RowL Wf8 _ 3 [Value.int IntKind.i64 0] := rf9
  clear rf5
  replace bf2 := bf2.grown bf7 bf2.size (by rintro k ⟨⟩; omega)
  replace q := q.grown bf7 q.size (by rintro k ⟨⟩; omega)
  replace re9 := re9.gr bf7 (by have := re9.lt; omega)
  replace qB := qB.grown bf7 qB.size (by rintro k ⟨⟩; omega)
  have rf5 := rf9
  clear rf9
  refine LL.nilS ?_
  refine CC.seq ?_
  refine CC.seq ?_
  refine CC.region ?_
  refine LL.val (R.move rfl rfl) rfl rfl rfl ?_
  refine LL.nilS ?_
  refine CC.block ?_
  have yB := qB.size
  have kn := rf5.lt
  clear re9
  refine CC.rangeZ (γ := Unit) (gf := 45) (lb := [Value.pointer (some ⟨bk, 0, none⟩)]) (encs := rE) rfl rfl hG qB (fun k hk => by (try simp only at hk); omega) (fun _ => rfl) rfl
    (fun m (pre : List Bl) W' => Below We12.heap.size We12 W' ∧ RowL W' gf4 3 [.int .i64 (pre.length : Int)] ∧ (pre.length = 0 ∨ (pre.length : Int) < many))
    (fun m (pre : List Bl) W' => Below We12.heap.size We12 W' ∧ RowL W' gf4 3 [.int .i64 (pre.length : Int)] ∧ (many ≤ pre.length ∧ (pre.length = 1 ∨ (pre.length : Int) - 1 < many) ∧ 1 ≤ pre.length ∧ pre.length ≤ K))
    (fun W' => Below We12.heap.size We12 W' ∧ ∃ p : Nat, RowL W' gf4 3 [.int .i64 (p : Int)] ∧ ((p : Int) = if (if 1 < many then many else 1) < (K : Int) then (if 1 < many then many else 1) else (K : Int)))
    (fun m m' s X Y hs ht hg => ⟨hs.1.trans (ht.below yB hs.1.size), ht.row hs.2.1 (.inl kn), hs.2.2⟩)
    (fun m m' s X Y hs ht hg => ⟨hs.1.trans (ht.below yB hs.1.size), ht.row hs.2.1 (.inl kn), hs.2.2⟩)
    ⟨qB, rf5, .inl rfl⟩ ?hIA ?hIxA
    (fun x _ => sl [(3, .pointer (some ⟨g3, 0, none⟩)), (4, .pointer (some ⟨g9, 0, none⟩)), (5, .pointer (some ⟨g19, 0, none⟩)), (7, .pointer (some ⟨g31, 0, none⟩)), (10, .pointer (some ⟨ge8, 0, none⟩)), (11, .pointer (some ⟨gf4, 0, none⟩)), (12, .int .i64 x.1), (13, .int .i64 x.2)]) (fun _ _ _ => True) (fun x c => fun _ W W' row h hg hr => trivial) ?assign ?body ?after
  case hIA =>
    rintro m xs W' rfl ⟨h1, h2, h3⟩
    exact ⟨h1, _, h2, by rw [hK] at h3 ⊢; rcases h3 with h3 | h3 <;> split <;> split <;> omega⟩
  case hIxA =>
    rintro m pre W' hp ⟨h1, h2, h3⟩
    exact ⟨h1, pre.length, h2, by split <;> split <;> omega⟩
  case assign =>
    rintro l' m pre x W Kc hm ⟨h1, h2, h3⟩ hKc
    refine CC.seq ?_
    refine CC.region ?_
    refine LL.val (R.assign rfl rfl) rfl rfl rfl ?_
    refine LL.nilS ?_
    refine CC.region ?_
    refine LL.val (R.assign rfl rfl) rfl rfl rfl ?_
    refine LL.nil ?_
    exact EE.thenK fun a' F => hKc a' _ () (StaysZ.refl _ _ _) (Keeps.refl _ _) ⟨h1, h2, h3⟩ (F.keep _ ⟨rfl, rfl, rfl, rfl, rfl, rfl, rfl, rfl, trivial⟩) trivial
  case body =>
    rintro l' m pre ⟨f, d⟩ c W hm hl' hrl ⟨h1, hn, h3⟩ _ ⟨xs, hxs, tt, hp⟩
    rw [hxs] at hp
    have hget : L[pre.length]? = some (f, d) := by rw [← hp]; simp
    have hpk : pre.length < K := by rw [← hK]; exact (List.getElem?_eq_some_iff.1 hget).1
    have hxd : (pre ++ [(f, d)]).length = pre.length + 1 := by simp
    obtain ⟨hfd, hf0, hf1⟩ := hLp _ (List.mem_of_getElem? hget)
    simp only at hfd hf0 hf1
    obtain ⟨fn, rfl⟩ := Int.eq_ofNat_of_zero_le hf0
    rw [Int.toNat_natCast] at hfd
    have ySz := h1.size
    obtain ⟨rk, rr, rm, rw, rt, rd, bel⟩ := hV.lift h1
    obtain ⟨bv, ov, rfl, _, hc1⟩ := rd.one iEnc (i := pre.length) (t := (fn : Int)) (by simp [hget])
    have c1 := hc1 _ rfl
    have c2 : W.cell? ⟨g19, 0 + fn, none⟩ = some (.int .i64 d) := RowL.cell rm (by rw [show 0 + fn = fn by omega]; simp [hfd])
    have st := StaysZ.refl Wf8.heap.size m W
    have kp := Keeps.refl (fun k => k = bkl) W
    have hbW : bkl < W.heap.size := by omega
    have hbn : bkl ≠ gf4 := by omega
    clear hc1 rd bel hl' hrl hp hm hget hxs
    by_cases hmany : many ≤ (pre.length : Int) + 1
    · refine CC.block ?_
      refine CC.seq ?_
      refine CC.seq ?_
      refine CC.region ?_
      refine LL.val (R.load rfl rfl (I.ld1 rfl (RowL.cell hn rfl))) rfl rfl rfl ?_
      refine LL.val (R.load rfl rfl (I.ld1 rfl (RowL.cell rw rfl))) rfl rfl rfl ?_
      refine LL.val (R.len rfl rfl rfl rfl) rfl rfl rfl ?_
      refine LL.val (R.geF rfl rfl rfl (by omega)) rfl rfl rfl ?_
      refine LL.val (R.move rfl rfl) rfl rfl rfl ?_
      refine LL.val (R.move rfl rfl) rfl rfl rfl ?_
      refine LL.val (R.load rfl rfl (I.ld1 rfl (RowL.cell rw rfl))) rfl rfl rfl ?_
      refine LL.val (R.load rfl rfl (I.ld1 rfl (RowL.cell hn rfl))) rfl rfl rfl ?_
      refine LL.val (R.index rfl rfl rfl (I.ixS1 rfl (by omega))) rfl rfl rfl ?_
      refine LL.val (R.load rfl rfl (I.ld1 rfl (by assumption))) rfl rfl rfl ?_
      refine LL.val (R.neF rfl rfl rfl (by omega)) rfl rfl rfl ?_
      refine LL.val (R.pick rfl rfl rfl) rfl rfl rfl ?_
      refine LL.val (R.move rfl rfl) rfl rfl rfl ?_
      refine LL.val (R.move rfl rfl) rfl rfl rfl ?_
      refine LL.val (R.move rfl rfl) rfl rfl rfl ?_
      refine LL.val (R.index rfl rfl rfl (I.ixA1 rfl (by omega))) rfl rfl rfl ?_
      refine LL.val (R.load rfl rfl (I.ld1 rfl (by assumption))) rfl rfl rfl ?_
      refine LL.val (R.neF rfl rfl rfl (by omega)) rfl rfl rfl ?_
      refine LL.val (R.pick rfl rfl rfl) rfl rfl rfl ?_
      refine LL.nilS ?_
      refine CC.no rfl ?_
      refine CC.skip ?_
      refine EE.thenN ?_
      refine CC.seq ?_
      refine CC.region ?_
      refine LL.val (R.load rfl rfl (I.ld1 rfl (RowL.cell hn rfl))) rfl rfl rfl ?_
      refine LL.val (R.addNc rfl rfl rfl rfl (by omega)) rfl rfl rfl ?_
      refine LL.store rfl rfl rfl rfl hn (by exact Nat.le_of_ble_eq_true rfl) rfl rfl rfl rfl ?_
      intro Wh2 rh3 bh1 zh4
      have hlbh1 := hn.lt
      replace rh3 : RowL Wh2 _ 3 [Value.int IntKind.i64 ↑(pre.length + 1)] := rh3
      clear hn
      replace h1 := h1.grown bh1 h1.size (by rintro k ⟨⟩; omega)
      replace rk := rk.gr bh1 (by have := rk.lt; omega)
      replace rr := rr.gr bh1 (by have := rr.lt; omega)
      replace rm := rm.gr bh1 (by have := rm.lt; omega)
      replace rt := rt.gr bh1 (by have := rt.lt; omega)
      replace rw := rw.gr bh1 (by have := rw.lt; omega)
      replace c2 := cell_gr c2 bh1 (by omega)
      replace st := st.trans (StaysZ.of_grown bh1 (by omega))
      replace kp := kp.trans (Keeps.of_grown bh1 fun k hk => by (try simp only at hk); omega)
      have hn := rh3
      clear rh3
      refine LL.nilS ?_
      refine CC.seq ?_
      refine CC.region ?_
      refine LL.val (R.load rfl rfl (I.ld1 rfl (RowL.cell rt rfl))) rfl rfl rfl ?_
      refine LL.val (R.eqT rfl rfl rfl (by omega)) rfl rfl rfl ?_
      refine LL.val (R.move rfl rfl) rfl rfl rfl ?_
      refine LL.val (R.load rfl rfl (I.ld1 rfl (RowL.cell hn rfl))) rfl rfl rfl ?_
      refine LL.val (R.load rfl rfl (I.ld1 rfl (RowL.cell rk rfl))) rfl rfl rfl ?_
      refine LL.val (R.geT rfl rfl rfl (by omega)) rfl rfl rfl ?_
      refine LL.val (R.pick rfl rfl rfl) rfl rfl rfl ?_
      refine LL.nilS ?_
      refine CC.yes rfl ?_
      refine CC.exit ?_
      refine EE.inX' rfl ?_
      exact EE.roundXZ ⟨st, rfl, h1, by rw [hxd]; exact hn, by rw [hxd]; omega, by rw [hxd]; omega, by rw [hxd]; omega, by rw [hxd]; omega⟩
    · refine CC.block ?_
      refine CC.seq ?_
      refine CC.seq ?_
      refine CC.region ?_
      refine LL.val (R.load rfl rfl (I.ld1 rfl (RowL.cell hn rfl))) rfl rfl rfl ?_
      refine LL.val (R.load rfl rfl (I.ld1 rfl (RowL.cell rw rfl))) rfl rfl rfl ?_
      refine LL.val (R.len rfl rfl rfl rfl) rfl rfl rfl ?_
      refine LL.val (R.geF rfl rfl rfl (by omega)) rfl rfl rfl ?_
      refine LL.val (R.move rfl rfl) rfl rfl rfl ?_
      refine LL.val (R.move rfl rfl) rfl rfl rfl ?_
      refine LL.val (R.load rfl rfl (I.ld1 rfl (RowL.cell rw rfl))) rfl rfl rfl ?_
      refine LL.val (R.load rfl rfl (I.ld1 rfl (RowL.cell hn rfl))) rfl rfl rfl ?_
      refine LL.val (R.index rfl rfl rfl (I.ixS1 rfl (by omega))) rfl rfl rfl ?_
      refine LL.val (R.load rfl rfl (I.ld1 rfl (by assumption))) rfl rfl rfl ?_
      refine LL.val (R.neF rfl rfl rfl (by omega)) rfl rfl rfl ?_
      refine LL.val (R.pick rfl rfl rfl) rfl rfl rfl ?_
      refine LL.val (R.move rfl rfl) rfl rfl rfl ?_
      refine LL.val (R.move rfl rfl) rfl rfl rfl ?_
      refine LL.val (R.move rfl rfl) rfl rfl rfl ?_
      refine LL.val (R.index rfl rfl rfl (I.ixA1 rfl (by omega))) rfl rfl rfl ?_
      refine LL.val (R.load rfl rfl (I.ld1 rfl (by assumption))) rfl rfl rfl ?_
      refine LL.val (R.neF rfl rfl rfl (by omega)) rfl rfl rfl ?_
      refine LL.val (R.pick rfl rfl rfl) rfl rfl rfl ?_
      refine LL.nilS ?_
      refine CC.no rfl ?_
      refine CC.skip ?_
      refine EE.thenN ?_
      refine CC.seq ?_
      refine CC.region ?_
      refine LL.val (R.load rfl rfl (I.ld1 rfl (RowL.cell hn rfl))) rfl rfl rfl ?_
      refine LL.val (R.addNc rfl rfl rfl rfl (by omega)) rfl rfl rfl ?_
      refine LL.store rfl rfl rfl rfl hn (by exact Nat.le_of_ble_eq_true rfl) rfl rfl rfl rfl ?_
      intro Wi2 ri3 bi1 zi4
      have hlbi1 := hn.lt
      replace ri3 : RowL Wi2 _ 3 [Value.int IntKind.i64 ↑(pre.length + 1)] := ri3
      clear hn
      replace h1 := h1.grown bi1 h1.size (by rintro k ⟨⟩; omega)
      replace rk := rk.gr bi1 (by have := rk.lt; omega)
      replace rr := rr.gr bi1 (by have := rr.lt; omega)
      replace rm := rm.gr bi1 (by have := rm.lt; omega)
      replace rt := rt.gr bi1 (by have := rt.lt; omega)
      replace rw := rw.gr bi1 (by have := rw.lt; omega)
      replace c2 := cell_gr c2 bi1 (by omega)
      replace st := st.trans (StaysZ.of_grown bi1 (by omega))
      replace kp := kp.trans (Keeps.of_grown bi1 fun k hk => by (try simp only at hk); omega)
      have hn := ri3
      clear ri3
      refine LL.nilS ?_
      refine CC.seq ?_
      refine CC.region ?_
      refine LL.val (R.load rfl rfl (I.ld1 rfl (RowL.cell rt rfl))) rfl rfl rfl ?_
      refine LL.val (R.eqT rfl rfl rfl (by omega)) rfl rfl rfl ?_
      refine LL.val (R.move rfl rfl) rfl rfl rfl ?_
      refine LL.val (R.load rfl rfl (I.ld1 rfl (RowL.cell hn rfl))) rfl rfl rfl ?_
      refine LL.val (R.load rfl rfl (I.ld1 rfl (RowL.cell rk rfl))) rfl rfl rfl ?_
      refine LL.val (R.geF rfl rfl rfl (by omega)) rfl rfl rfl ?_
      refine LL.val (R.pick rfl rfl rfl) rfl rfl rfl ?_
      refine LL.nilS ?_
      refine CC.no rfl ?_
      refine CC.skip ?_
      refine EE.inN ?_
      exact EE.roundNZ ⟨st, kp, h1, by rw [hxd]; exact hn, .inr (by rw [hxd]; omega)⟩
  case after =>
    rintro E0 W hE0 ⟨h1, p, hn, hcp⟩ hE01
    obtain ⟨rk, rr, rm, rw, rt, rd, bel⟩ := hV.lift h1
    have yz := h1.size
    have eE0 := (Array.getElem?_eq_some_iff.1 hE01).1
    refine EE.thenN ?_
    refine CC.seq ?_
    refine CC.region ?_
    refine LL.val (R.load rfl rfl (I.ld1 rfl (RowL.cell rt rfl))) rfl rfl rfl ?_
    refine LL.val (R.eqT rfl rfl rfl (by omega)) rfl rfl rfl ?_
    refine LL.val (R.move rfl rfl) rfl rfl rfl ?_
    refine LL.val (R.load rfl rfl (I.ld1 rfl (RowL.cell hn rfl))) rfl rfl rfl ?_
    refine LL.val (R.load rfl rfl (I.ld1 rfl (RowL.cell rw rfl))) rfl rfl rfl ?_
    refine LL.val (R.len rfl rfl rfl rfl) rfl rfl rfl ?_
    refine LL.val (R.load rfl rfl (I.ld1 rfl (RowL.cell rk rfl))) rfl rfl rfl ?_
    refine LL.val (R.max rfl rfl) rfl rfl rfl ?_
    refine LL.val (R.min rfl rfl) rfl rfl rfl ?_
    refine LL.val (R.neF rfl rfl rfl (by omega)) rfl rfl rfl ?_
    refine LL.val (R.pick rfl rfl rfl) rfl rfl rfl ?_
    refine LL.val (R.move rfl rfl) rfl rfl rfl ?_
    refine LL.val (R.load rfl rfl (I.ld1 rfl (RowL.cell rt rfl))) rfl rfl rfl ?_
    refine LL.val (R.eqF rfl rfl rfl (by omega)) rfl rfl rfl ?_
    refine LL.val (R.move rfl rfl) rfl rfl rfl ?_
    refine LL.skip rfl rfl ?_
    refine LL.skip rfl rfl ?_
    refine LL.skip rfl rfl ?_
    refine LL.skip rfl rfl ?_
    refine LL.val (R.pick rfl rfl rfl) rfl rfl rfl ?_
    refine LL.val (R.pick rfl rfl rfl) rfl rfl rfl ?_
    refine LL.nilS ?_
    refine CC.no rfl ?_
    refine CC.skip ?_
    refine EE.inN ?_
    refine EE.thenN ?_
    refine CC.seq ?_
    refine CC.seq ?_
    refine CC.region ?_
    refine LL.val (R.load rfl rfl (I.ld1 rfl (RowL.cell rt rfl))) rfl rfl rfl ?_
    refine LL.nilS ?_
    refine CC.region ?_
    have lj1 := hn.lt
    have lj2 := (Array.getElem?_eq_some_iff.1 hE01).1
    have lj3 := rk.lt
    have lj4 := rr.lt
    have lj5 := rm.lt
    have lj6 := rw.lt
    have lj7 := rt.lt
    refine LL.alloc ([Value.int IntKind.i64 0]) rfl rfl rfl rfl rfl ?_
    intro Wj9 gj10 egj10 rj11 zj12 bj8
    replace h1 := h1.trans (bj8.mono h1.size)
    replace hn := hn.up bj8
    replace hE01 := defer_up hE01 bj8
    replace rk := rk.up bj8
    replace rr := rr.up bj8
    replace rm := rm.up bj8
    replace rw := rw.up bj8
    replace rt := rt.up bj8
    replace rd := rd.up bj8
    replace bel := bel.trans (bj8.mono bel.size)
    refine LL.store rfl rfl rfl rfl rj11 (by exact Nat.le_of_ble_eq_true rfl) rfl rfl rfl rfl ?_
    intro Wj14 rj15 bj13 zj16
    have hlbj13 := rj11.lt
    replace rj15 : RowL Wj14 _ 3 [Value.int IntKind.i64 0] := rj15
    clear rj11
    replace bj8 := bj8.grown bj13 bj8.size (by rintro k ⟨⟩; omega)
    replace h1 := h1.grown bj13 h1.size (by rintro k ⟨⟩; omega)
    replace hn := hn.gr bj13 (by have := hn.lt; omega)
    replace hE01 := (bj13.block _ (Array.getElem?_eq_some_iff.1 hE01).1 (by simp; omega)).trans hE01
    replace rk := rk.gr bj13 (by have := rk.lt; omega)
    replace rr := rr.gr bj13 (by have := rr.lt; omega)
    replace rm := rm.gr bj13 (by have := rm.lt; omega)
    replace rw := rw.gr bj13 (by have := rw.lt; omega)
    replace rt := rt.gr bj13 (by have := rt.lt; omega)
    replace bel := bel.grown bj13 bel.size (by rintro k ⟨⟩; omega)
    have rj11 := rj15
    clear rj15
    refine LL.nilS ?_
    refine CC.region ?_
    refine LL.val (R.load rfl rfl (I.ld1 rfl (RowL.cell rj11 rfl))) rfl rfl rfl ?_
    refine LL.val (R.addIz (z := 1) rfl rfl rfl (by decide) (by decide)) rfl rfl rfl ?_
    refine LL.store rfl rfl rfl rfl rj11 (by exact Nat.le_of_ble_eq_true rfl) rfl rfl rfl rfl ?_
    intro Wj18 rj19 bj17 zj20
    have hlbj17 := rj11.lt
    replace rj19 : RowL Wj18 _ 3 [Value.int IntKind.i64 1] := rj19
    clear rj11
    replace bj8 := bj8.grown bj17 bj8.size (by rintro k ⟨⟩; omega)
    replace h1 := h1.grown bj17 h1.size (by rintro k ⟨⟩; omega)
    replace hn := hn.gr bj17 (by have := hn.lt; omega)
    replace hE01 := (bj17.block _ (Array.getElem?_eq_some_iff.1 hE01).1 (by simp; omega)).trans hE01
    replace rk := rk.gr bj17 (by have := rk.lt; omega)
    replace rr := rr.gr bj17 (by have := rr.lt; omega)
    replace rm := rm.gr bj17 (by have := rm.lt; omega)
    replace rw := rw.gr bj17 (by have := rw.lt; omega)
    replace rt := rt.gr bj17 (by have := rt.lt; omega)
    replace bel := bel.grown bj17 bel.size (by rintro k ⟨⟩; omega)
    have rj11 := rj19
    clear rj19
    refine LL.nil ?_
    refine EE.again ?_
    have rd := (hV.lift h1).rd
    have hV1 : LvE Wj18 w g3 g9 g19 g31 gj10 many (plL l) (.slice av K cv) L 1 := ⟨rk, rr, rm, rw, rj11, rd, bel⟩
    have hE0k : ∀ W', Below Wj18.heap.size Wj18 W' → W'.heap[E0]? = some (.deferred (some [])) := fun W' h => defer_up hE01 h
    have qA := h1
    have qB := Below.refl Wj18.heap.size Wj18
    have jsz := bel.size
    have jE := (Array.getElem?_eq_some_iff.1 hE01).1
    clear h1 hn hcp rt rd rm rw bj8 bj13 bj17 kn hE01 q yB rf5 bf2
    refine RN.keep [(3, .pointer (some ⟨g3, 0, none⟩)), (4, .pointer (some ⟨g9, 0, none⟩)), (5, .pointer (some ⟨g19, 0, none⟩)), (7, .pointer (some ⟨g31, 0, none⟩)), (9, .func (.func 45) #[] [Value.pointer (some ⟨bk, 0, none⟩)].toArray), (10, .pointer (some ⟨gj10, 0, none⟩))] ⟨rfl, rfl, rfl, rfl, rfl, rfl, trivial⟩ ?_
    refine RN.step ?_
    refine CC.seq ?_
    refine CC.seq ?_
    refine CC.region ?_
    refine LL.val (R.load rfl rfl (I.ld1 rfl (RowL.cell rj11 rfl))) rfl rfl rfl ?_
    refine LL.val (R.ltT rfl rfl rfl (by omega)) rfl rfl rfl ?_
    refine LL.nilS ?_
    refine CC.yes rfl ?_
    refine CC.skip ?_
    refine EE.thenN ?_
    refine CC.seq ?_
    refine CC.block ?_
    refine CC.seq ?_
    refine CC.region ?_
    have lk1 := rk.lt
    have lk2 := rr.lt
    have lk3 := rj11.lt
    refine LL.alloc ([Value.int IntKind.i64 0]) rfl rfl rfl rfl rfl ?_
    intro Wk5 gk6 egk6 rk7 zk8 bk4
    replace rk := rk.up bk4
    replace rr := rr.up bk4
    replace bel := bel.trans (bk4.mono bel.size)
    replace rj11 := rj11.up bk4
    replace qA := qA.trans (bk4.mono qA.size)
    replace qB := qB.trans (bk4.mono qB.size)
    refine LL.store rfl rfl rfl rfl rk7 (by exact Nat.le_of_ble_eq_true rfl) rfl rfl rfl rfl ?_
    intro Wk10 rk11 bk9 zk12
    have hlbk9 := rk7.lt
    replace rk11 : RowL Wk10 _ 3 [Value.int IntKind.i64 0] := rk11
    clear rk7
    replace bk4 := bk4.grown bk9 bk4.size (by rintro k ⟨⟩; omega)
    replace rk := rk.gr bk9 (by have := rk.lt; omega)
    replace rr := rr.gr bk9 (by have := rr.lt; omega)
    replace bel := bel.grown bk9 bel.size (by rintro k ⟨⟩; omega)
    replace rj11 := rj11.gr bk9 (by have := rj11.lt; omega)
    replace qA := qA.grown bk9 qA.size (by rintro k ⟨⟩; omega)
    replace qB := qB.grown bk9 qB.size (by rintro k ⟨⟩; omega)
    have rk7 := rk11
    clear rk11
    refine LL.nilS ?_
    refine CC.seq ?_
    refine CC.seq ?_
    refine CC.region ?_
    refine LL.val (R.move rfl rfl) rfl rfl rfl ?_
    refine LL.nilS ?_
    refine CC.block ?_
    have yB := qB.size
    have kn := rk7.lt
    clear rk rr rj11 bel
    refine CC.rangeZ (γ := Unit) (gf := 45) (lb := [Value.pointer (some ⟨bk, 0, none⟩)]) (encs := rE) rfl rfl hG qA (fun k hk => by (try simp only at hk); omega) (fun _ => rfl) rfl
      (fun m (pre : List Bl) W' => Below Wj18.heap.size Wj18 W' ∧ RowL W' gk6 3 [.int .i64 (pre.length : Int)] ∧ True)
      (fun m (pre : List Bl) W' => Below Wj18.heap.size Wj18 W' ∧ RowL W' gk6 3 [.int .i64 (pre.length : Int)] ∧ False)
      (fun W' => Below Wj18.heap.size Wj18 W' ∧ ∃ p : Nat, RowL W' gk6 3 [.int .i64 (p : Int)] ∧ (p : Int) = K)
      (fun m m' s X Y hs ht hg => ⟨hs.1.trans (ht.below yB hs.1.size), ht.row hs.2.1 (.inl kn), hs.2.2⟩)
      (fun m m' s X Y hs ht hg => ⟨hs.1.trans (ht.below yB hs.1.size), ht.row hs.2.1 (.inl kn), hs.2.2⟩)
      ⟨qB, rk7, trivial⟩ ?hIA ?hIxA
      (fun x _ => sl [(3, .pointer (some ⟨g3, 0, none⟩)), (4, .pointer (some ⟨g9, 0, none⟩)), (5, .pointer (some ⟨g19, 0, none⟩)), (7, .pointer (some ⟨g31, 0, none⟩)), (10, .pointer (some ⟨gj10, 0, none⟩)), (11, .pointer (some ⟨gk6, 0, none⟩)), (12, .int .i64 x.1), (13, .int .i64 x.2)]) (fun _ _ _ => True) (fun x c => fun _ W W' row h hg hr => trivial) ?assign ?body ?after
    case hIA =>
      rintro m xs W' hxs ⟨h1, h2, h3⟩
      rw [hxs, hK] at h2
      exact ⟨h1, _, h2, rfl⟩
    case hIxA =>
      rintro m pre W' hp ⟨h1, h2, h3⟩
      exact h3.elim
    case assign =>
      rintro l' m pre x W Kc hm ⟨h1, h2, h3⟩ hKc
      refine CC.seq ?_
      refine CC.region ?_
      refine LL.val (R.assign rfl rfl) rfl rfl rfl ?_
      refine LL.nilS ?_
      refine CC.region ?_
      refine LL.val (R.assign rfl rfl) rfl rfl rfl ?_
      refine LL.nil ?_
      exact EE.thenK fun a' F => hKc a' _ () (StaysZ.refl _ _ _) (Keeps.refl _ _) ⟨h1, h2, h3⟩ (F.keep _ ⟨rfl, rfl, rfl, rfl, rfl, rfl, rfl, rfl, trivial⟩) trivial
    case body =>
      rintro l' m pre ⟨f, d⟩ c W hm hl' hrl ⟨h1, hn, h3⟩ _ ⟨xs, hxs, tt, hp⟩
      rw [hxs] at hp
      have hget : L[pre.length]? = some (f, d) := by rw [← hp]; simp
      have hpk : pre.length < K := by rw [← hK]; exact (List.getElem?_eq_some_iff.1 hget).1
      have hxd : (pre ++ [(f, d)]).length = pre.length + 1 := by simp
      obtain ⟨hfd, hf0, hf1⟩ := hLp _ (List.mem_of_getElem? hget)
      simp only at hfd hf0 hf1
      obtain ⟨fn, rfl⟩ := Int.eq_ofNat_of_zero_le hf0
      rw [Int.toNat_natCast] at hfd
      have ySz := h1.size
      obtain ⟨rk, rr, rm, rw, rt, rd, bel⟩ := hV1.lift h1
      obtain ⟨bv, ov, rfl, _, hc1⟩ := rd.one iEnc (i := pre.length) (t := (fn : Int)) (by simp [hget])
      have c1 := hc1 _ rfl
      have c2 : W.cell? ⟨g19, 0 + fn, none⟩ = some (.int .i64 d) := RowL.cell rm (by rw [show 0 + fn = fn by omega]; simp [hfd])
      have st := StaysZ.refl Wk10.heap.size m W
      have kp := Keeps.refl (fun k => k = bkl) W
      have hbW : bkl < W.heap.size := by omega
      have hbn : bkl ≠ gk6 := by omega
      clear hc1 rd bel hl' hrl hp hm hget hxs
      refine CC.block ?_
      refine CC.seq ?_
      refine CC.seq ?_
      refine CC.region ?_
      refine LL.val (R.load rfl rfl (I.ld1 rfl (RowL.cell hn rfl))) rfl rfl rfl ?_
      refine LL.val (R.load rfl rfl (I.ld1 rfl (RowL.cell rw rfl))) rfl rfl rfl ?_
      refine LL.val (R.len rfl rfl rfl rfl) rfl rfl rfl ?_
      refine LL.val (R.geF rfl rfl rfl (by omega)) rfl rfl rfl ?_
      refine LL.val (R.move rfl rfl) rfl rfl rfl ?_
      refine LL.val (R.move rfl rfl) rfl rfl rfl ?_
      refine LL.val (R.load rfl rfl (I.ld1 rfl (RowL.cell rw rfl))) rfl rfl rfl ?_
      refine LL.val (R.load rfl rfl (I.ld1 rfl (RowL.cell hn rfl))) rfl rfl rfl ?_
      refine LL.val (R.index rfl rfl rfl (I.ixS1 rfl (by omega))) rfl rfl rfl ?_
      refine LL.val (R.load rfl rfl (I.ld1 rfl (by assumption))) rfl rfl rfl ?_
      refine LL.val (R.neF rfl rfl rfl (by omega)) rfl rfl rfl ?_
      refine LL.val (R.pick rfl rfl rfl) rfl rfl rfl ?_
      refine LL.val (R.move rfl rfl) rfl rfl rfl ?_
      refine LL.val (R.move rfl rfl) rfl rfl rfl ?_
      refine LL.val (R.move rfl rfl) rfl rfl rfl ?_
      refine LL.val (R.index rfl rfl rfl (I.ixA1 rfl (by omega))) rfl rfl rfl ?_
      refine LL.val (R.load rfl rfl (I.ld1 rfl (by assumption))) rfl rfl rfl ?_
      refine LL.val (R.neF rfl rfl rfl (by omega)) rfl rfl rfl ?_
      refine LL.val (R.pick rfl rfl rfl) rfl rfl rfl ?_
      refine LL.nilS ?_
      refine CC.no rfl ?_
      refine CC.skip ?_
      refine EE.thenN ?_
      refine CC.seq ?_
      refine CC.region ?_
      refine LL.val (R.load rfl rfl (I.ld1 rfl (RowL.cell hn rfl))) rfl rfl rfl ?_
      refine LL.val (R.addNc rfl rfl rfl rfl (by omega)) rfl rfl rfl ?_
      refine LL.store rfl rfl rfl rfl hn (by exact Nat.le_of_ble_eq_true rfl) rfl rfl rfl rfl ?_
      intro Wm2 rm3 bm1 zm4
      have hlbm1 := hn.lt
      replace rm3 : RowL Wm2 _ 3 [Value.int IntKind.i64 ↑(pre.length + 1)] := rm3
      clear hn
      replace h1 := h1.grown bm1 h1.size (by rintro k ⟨⟩; omega)
      replace rk := rk.gr bm1 (by have := rk.lt; omega)
      replace rr := rr.gr bm1 (by have := rr.lt; omega)
      replace rm := rm.gr bm1 (by have := rm.lt; omega)
      replace rt := rt.gr bm1 (by have := rt.lt; omega)
      replace rw := rw.gr bm1 (by have := rw.lt; omega)
      replace c2 := cell_gr c2 bm1 (by omega)
      replace st := st.trans (StaysZ.of_grown bm1 (by omega))
      replace kp := kp.trans (Keeps.of_grown bm1 fun k hk => by (try simp only at hk); omega)
      have hn := rm3
      clear rm3
      refine LL.nilS ?_
      refine CC.seq ?_
      refine CC.region ?_
      refine LL.val (R.load rfl rfl (I.ld1 rfl (RowL.cell rt rfl))) rfl rfl rfl ?_
      refine LL.val (R.eqF rfl rfl rfl (by omega)) rfl rfl rfl ?_
      refine LL.val (R.move rfl rfl) rfl rfl rfl ?_
      refine LL.skip rfl rfl ?_
      refine LL.skip rfl rfl ?_
      refine LL.skip rfl rfl ?_
      refine LL.val (R.pick rfl rfl rfl) rfl rfl rfl ?_
      refine LL.nilS ?_
      refine CC.no rfl ?_
      refine CC.skip ?_
      refine EE.inN ?_
      exact EE.roundNZ ⟨st, kp, h1, by rw [hxd]; exact hn, trivial⟩
    case after =>
      rintro E1 W hE1 ⟨h1, p, hn, hcp⟩ hE11
      obtain ⟨rk, rr, rm, rw, rt, rd, q⟩ := hV1.lift h1
      have yz := h1.size
      have hE01 := hE0k _ h1
      have eE01 := (Array.getElem?_eq_some_iff.1 hE01).1
      have eE1 := (Array.getElem?_eq_some_iff.1 hE11).1
      clear rd
      refine EE.thenN ?_
      refine CC.seq ?_
      refine CC.region ?_
      refine LL.val (R.load rfl rfl (I.ld1 rfl (RowL.cell rt rfl))) rfl rfl rfl ?_
      refine LL.val (R.eqF rfl rfl rfl (by omega)) rfl rfl rfl ?_
      refine LL.val (R.move rfl rfl) rfl rfl rfl ?_
      refine LL.skip rfl rfl ?_
      refine LL.skip rfl rfl ?_
      refine LL.skip rfl rfl ?_
      refine LL.skip rfl rfl ?_
      refine LL.skip rfl rfl ?_
      refine LL.skip rfl rfl ?_
      refine LL.skip rfl rfl ?_
      refine LL.val (R.pick rfl rfl rfl) rfl rfl rfl ?_
      refine LL.val (R.move rfl rfl) rfl rfl rfl ?_
      refine LL.val (R.load rfl rfl (I.ld1 rfl (RowL.cell rt rfl))) rfl rfl rfl ?_
      refine LL.val (R.eqT rfl rfl rfl (by omega)) rfl rfl rfl ?_
      refine LL.val (R.move rfl rfl) rfl rfl rfl ?_
      refine LL.val (R.load rfl rfl (I.ld1 rfl (RowL.cell hn rfl))) rfl rfl rfl ?_
      refine LL.val (R.load rfl rfl (I.ld1 rfl (RowL.cell rw rfl))) rfl rfl rfl ?_
      refine LL.val (R.len rfl rfl rfl rfl) rfl rfl rfl ?_
      refine LL.val (R.neF rfl rfl rfl (by omega)) rfl rfl rfl ?_
      refine LL.val (R.pick rfl rfl rfl) rfl rfl rfl ?_
      refine LL.val (R.pick rfl rfl rfl) rfl rfl rfl ?_
      refine LL.nilS ?_
      refine CC.no rfl ?_
      refine CC.skip ?_
      refine EE.inN ?_
      refine EE.thenN ?_
      refine CC.seq ?_
      refine CC.seq ?_
      refine CC.region ?_
      refine LL.val (R.load rfl rfl (I.ld1 rfl (RowL.cell rt rfl))) rfl rfl rfl ?_
      refine LL.nilS ?_
      refine CC.region ?_
      have ln1 := hn.lt
      have ln2 := (Array.getElem?_eq_some_iff.1 hE11).1
      have ln3 := rk.lt
      have ln4 := rr.lt
      have ln5 := rm.lt
      have ln6 := rw.lt
      have ln7 := rt.lt
      have ln8 := (Array.getElem?_eq_some_iff.1 hE01).1
      refine LL.alloc ([Value.int IntKind.i64 0]) rfl rfl rfl rfl rfl ?_
      intro Wn10 gn11 egn11 rn12 zn13 bn9
      replace h1 := h1.trans (bn9.mono h1.size)
      replace hn := hn.up bn9
      replace hE11 := defer_up hE11 bn9
      replace rk := rk.up bn9
      replace rr := rr.up bn9
      replace rm := rm.up bn9
      replace rw := rw.up bn9
      replace rt := rt.up bn9
      replace q := q.trans (bn9.mono q.size)
      replace hE01 := defer_up hE01 bn9
      refine LL.store rfl rfl rfl rfl rn12 (by exact Nat.le_of_ble_eq_true rfl) rfl rfl rfl rfl ?_
      intro Wn15 rn16 bn14 zn17
      have hlbn14 := rn12.lt
      replace rn16 : RowL Wn15 _ 3 [Value.int IntKind.i64 1] := rn16
      clear rn12
      replace bn9 := bn9.grown bn14 bn9.size (by rintro k ⟨⟩; omega)
      replace h1 := h1.grown bn14 h1.size (by rintro k ⟨⟩; omega)
      replace hn := hn.gr bn14 (by have := hn.lt; omega)
      replace hE11 := (bn14.block _ (Array.getElem?_eq_some_iff.1 hE11).1 (by simp; omega)).trans hE11
      replace rk := rk.gr bn14 (by have := rk.lt; omega)
      replace rr := rr.gr bn14 (by have := rr.lt; omega)
      replace rm := rm.gr bn14 (by have := rm.lt; omega)
      replace rw := rw.gr bn14 (by have := rw.lt; omega)
      replace rt := rt.gr bn14 (by have := rt.lt; omega)
      replace q := q.grown bn14 q.size (by rintro k ⟨⟩; omega)
      replace hE01 := (bn14.block _ (Array.getElem?_eq_some_iff.1 hE01).1 (by simp; omega)).trans hE01
      have rn12 := rn16
      clear rn16
      refine LL.nilS ?_
      refine CC.region ?_
      refine LL.val (R.load rfl rfl (I.ld1 rfl (RowL.cell rn12 rfl))) rfl rfl rfl ?_
      refine LL.val (R.addIz (z := 2) rfl rfl rfl (by decide) (by decide)) rfl rfl rfl ?_
      refine LL.store rfl rfl rfl rfl rn12 (by exact Nat.le_of_ble_eq_true rfl) rfl rfl rfl rfl ?_
      intro Wn19 rn20 bn18 zn21
      have hlbn18 := rn12.lt
      replace rn20 : RowL Wn19 _ 3 [Value.int IntKind.i64 2] := rn20
      clear rn12
      replace bn9 := bn9.grown bn18 bn9.size (by rintro k ⟨⟩; omega)
      replace h1 := h1.grown bn18 h1.size (by rintro k ⟨⟩; omega)
      replace hn := hn.gr bn18 (by have := hn.lt; omega)
      replace hE11 := (bn18.block _ (Array.getElem?_eq_some_iff.1 hE11).1 (by simp; omega)).trans hE11
      replace rk := rk.gr bn18 (by have := rk.lt; omega)
      replace rr := rr.gr bn18 (by have := rr.lt; omega)
      replace rm := rm.gr bn18 (by have := rm.lt; omega)
      replace rw := rw.gr bn18 (by have := rw.lt; omega)
      replace rt := rt.gr bn18 (by have := rt.lt; omega)
      replace q := q.grown bn18 q.size (by rintro k ⟨⟩; omega)
      replace hE01 := (bn18.block _ (Array.getElem?_eq_some_iff.1 hE01).1 (by simp; omega)).trans hE01
      have rn12 := rn20
      clear rn20
      refine LL.nil ?_
      refine EE.again ?_
      refine RN.step ?_
      refine CC.seq ?_
      refine CC.seq ?_
      refine CC.region ?_
      refine LL.val (R.load rfl rfl (I.ld1 rfl (RowL.cell rn12 rfl))) rfl rfl rfl ?_
      refine LL.val (R.ltF rfl rfl rfl (by omega)) rfl rfl rfl ?_
      refine LL.nilS ?_
      refine CC.no rfl ?_
      refine CC.exit ?_
      refine EE.thenX ?_
      refine EE.thenX ?_
      refine EE.inX ?_
      refine EE.thenN ?_
      refine CC.seq ?_
      refine CC.region ?_
      refine LL.call (R.call rfl rfl rfl) rfl rfl rfl (works_any _ (hsF _ q)) ?_
      rintro e Wn23 ⟨rfl, bn22⟩
      refine ⟨_, rfl, ?_⟩
      have zbn22 := bn22.size
      replace bn9 := bn9.trans (bn22.mono bn9.size)
      replace h1 := h1.trans (bn22.mono h1.size)
      replace hn := hn.up bn22
      replace hE11 := defer_up hE11 bn22
      replace rk := rk.up bn22
      replace rr := rr.up bn22
      replace rm := rm.up bn22
      replace rw := rw.up bn22
      replace rt := rt.up bn22
      replace q := q.trans (bn22.mono q.size)
      replace hE01 := defer_up hE01 bn22
      replace rn12 := rn12.up bn22
      refine LL.store rfl rfl rfl rfl rr (by exact Nat.le_of_ble_eq_true rfl) rfl rfl rfl rfl ?_
      intro Wn26 rn27 bn25 zn28
      have hlbn25 := rr.lt
      replace rn27 : RowL Wn26 _ 4 [Value.bool true] := rn27
      clear rr
      replace hn := hn.gr bn25 (by have := hn.lt; omega)
      replace hE11 := (bn25.block _ (Array.getElem?_eq_some_iff.1 hE11).1 (by simp; omega)).trans hE11
      replace rk := rk.gr bn25 (by have := rk.lt; omega)
      replace rm := rm.gr bn25 (by have := rm.lt; omega)
      replace rw := rw.gr bn25 (by have := rw.lt; omega)
      replace rt := rt.gr bn25 (by have := rt.lt; omega)
      replace q := q.grown bn25 q.size (by rintro k ⟨⟩; omega)
      replace hE01 := (bn25.block _ (Array.getElem?_eq_some_iff.1 hE01).1 (by simp; omega)).trans hE01
      replace rn12 := rn12.gr bn25 (by have := rn12.lt; omega)
      have rr := rn27
      clear rn27
      refine LL.nilS ?_
      refine CC.ret ?_
      have hE9 : g9 ≠ E1 := by omega
      refine EE.retNN hE01 hE11 (by omega) rfl ⟨_, rfl, lv1 rfl ((taken_up (taken_up rr hE9) (by omega)).cell rfl)⟩ ?_
      exact ⟨rfl, taken_bel (taken_bel q (by omega) (Nat.le_refl _)) (by omega) (Nat.le_refl _)⟩
set_option maxRecDepth 100000 in
set_option maxHeartbeats 16000000 in
theorem eachx_F (v : Value) (l : List Ex) (many : Int) (w : World) (hs : Start w) (hv : ReadsT eE 3 w v l) (h30 : l.length ≤ 30) (h : ¬vL l) : Calls Tryd.prog 4 #[v, .int .i64 many] w fun e w' => e = .returned (.bool true) ∧ Below w.heap.size w w' := by
  have q := Below.refl w.heap.size w
  obtain ⟨N, hN⟩ : ∃ N, l.length = N := ⟨_, rfl⟩
  obtain ⟨a, cap, rfl, hcap⟩ := hv.form hN
  have hvF : ∀ W, Below w.heap.size w W → ReadsT eE 3 W (.slice a N cap) l := fun W hb => hv.up hb
  have hsF : ∀ W, Below w.heap.size w W → Start W := fun W hb => hs.up hb
  clear hs hv
  rw [hN] at h30
  have hlen : l.length ≤ 1048576 := by omega
  refine X.fnM Tryd.func4 rfl (n := 100) rfl rfl ?_
  refine CC.seq ?_
  refine CC.region ?_
  refine LL.box [Value.int IntKind.i64 many] rfl rfl rfl rfl rfl ?_
  intro W2 g3 eg3 r4 z5 b1
  replace q := q.trans (b1.mono q.size)
  have l6 := r4.lt
  refine LL.alloc ([Value.bool false]) rfl rfl rfl rfl rfl ?_
  intro W8 g9 eg9 r10 z11 b7
  replace r4 := r4.up b7
  replace b1 := b1.trans (b7.mono b1.size)
  replace q := q.trans (b7.mono q.size)
  refine LL.nilS ?_
  refine CC.seq ?_
  refine CC.seq ?_
  refine CC.region ?_
  refine LL.val (R.move rfl rfl) rfl rfl rfl ?_
  refine LL.val (R.len rfl rfl rfl rfl) rfl rfl rfl ?_
  refine LL.val (R.gtF rfl rfl rfl (by omega)) rfl rfl rfl ?_
  refine LL.nilS ?_
  refine CC.no rfl ?_
  refine CC.skip ?_
  refine EE.thenN ?_
  refine CC.seq ?_
  refine CC.region ?_
  refine LL.val (R.move rfl rfl) rfl rfl rfl ?_
  refine LL.call (R.call rfl rfl rfl) rfl rfl rfl (rof_F l _ _ (hvF _ q) hlen h) ?_
  rintro e W13 ⟨v14, rfl, k15, b12⟩
  refine ⟨_, rfl, ?_⟩
  have zb12 := b12.size
  replace r10 := r10.up b12
  replace b7 := b7.trans (b12.mono b7.size)
  replace r4 := r4.up b12
  replace b1 := b1.trans (b12.mono b1.size)
  replace q := q.trans (b12.mono q.size)
  refine LL.val (R.move rfl rfl) rfl rfl rfl ?_
  refine LL.val (R.extract rfl rfl rfl) rfl rfl rfl ?_
  refine LL.val (R.extract rfl rfl rfl) rfl rfl rfl ?_
  have l17 := r10.lt
  have l18 := r4.lt
  refine LL.alloc (intsZ .i64 (List.replicate 128 0)) rfl rfl rfl rfl rfl ?_
  intro W20 g21 eg21 r22 z23 b19
  replace b12 := b12.trans (b19.mono b12.size)
  replace r10 := r10.up b19
  replace b7 := b7.trans (b19.mono b7.size)
  replace r4 := r4.up b19
  replace b1 := b1.trans (b19.mono b1.size)
  replace q := q.trans (b19.mono q.size)
  refine LL.storeAZ rfl rfl rfl rfl (by first | assumption | exact List.length_replicate | exact plL_len _ | exact plOf_len _ | simp) r22 (by first | (rw [List.length_map]; exact (by first | assumption | exact List.length_replicate | exact plL_len _ | exact plOf_len _ | simp)) | simp) rfl rfl ?_
  intro W25 r26 b24 z27
  have hlb24 := r22.lt
  clear r22
  replace b19 := b19.grown b24 b19.size (by rintro k ⟨⟩; omega)
  replace b12 := b12.grown b24 b12.size (by rintro k ⟨⟩; omega)
  replace r10 := r10.gr b24 (by have := r10.lt; omega)
  replace b7 := b7.grown b24 b7.size (by rintro k ⟨⟩; omega)
  replace r4 := r4.gr b24 (by have := r4.lt; omega)
  replace b1 := b1.grown b24 b1.size (by rintro k ⟨⟩; omega)
  replace q := q.grown b24 q.size (by rintro k ⟨⟩; omega)
  have r22 := r26
  clear r26
  refine LL.val (R.assign rfl rfl) rfl rfl rfl ?_
  refine LL.nilS ?_
  refine CC.seq ?_
  refine CC.region ?_
  have l28 := r10.lt
  have l29 := r4.lt
  have l30 := r22.lt
  refine LL.alloc ([Value.slice none 0 0]) rfl rfl rfl rfl rfl ?_
  intro W32 g33 eg33 r34 z35 b31
  replace b19 := b19.trans (b31.mono b19.size)
  replace b12 := b12.trans (b31.mono b12.size)
  replace r10 := r10.up b31
  replace b7 := b7.trans (b31.mono b7.size)
  replace r4 := r4.up b31
  replace b1 := b1.trans (b31.mono b1.size)
  replace q := q.trans (b31.mono q.size)
  replace r22 := r22.up b31
  refine LL.nilS ?_
  refine CC.seq ?_
  refine CC.seq ?_
  refine CC.region ?_
  refine LL.val (R.assign rfl rfl) rfl rfl rfl ?_
  refine LL.nilS ?_
  refine CC.block ?_
  have l31 := r34.lt
  have yq := q.size
  have hw3 : w.heap.size ≤ g3 := by omega
  have h39 : g3 < g9 := by omega
  have h919 : g9 < g21 := by omega
  have h1931 : g21 < g33 := by omega
  refine CC.loop (α := Value) (fun _ => [(0, .slice a N cap), (3, .pointer (some ⟨g3, 0, none⟩)), (4, .pointer (some ⟨g9, 0, none⟩)), (5, .pointer (some ⟨g21, 0, none⟩)), (6, .bool false), (7, .pointer (some ⟨g33, 0, none⟩)), (8, .int .i64 0)]) (fun v W => Below w.heap.size w W ∧ g33 + 1 ≤ W.heap.size ∧ RowL W g3 3 [.int .i64 many] ∧ RowL W g9 4 [.bool false] ∧ RowL W g21 25 (intsZ .i64 v14) ∧ RowL W g33 36 [v] ∧ ReadsT iE 1 W v ((blS ([] : List Ex)).map (·.1))) (fun _ => 0) (.slice none 0 0) ⟨rfl, rfl, rfl, rfl, rfl, rfl, rfl, trivial⟩ ⟨q, by omega, r4, r10, r22, r34, ReadsT.nil _⟩ ?_
  clear q r4 r10 r22 r34 b31 b19 b12 b7 b1 b24 yq
  rintro v W ⟨q, yB, r4, r10, r22, r34, hrd⟩
  show CC none Tryd.prog _ 100 [] (sl [(0, .slice a N cap), (3, .pointer (some ⟨g3, 0, none⟩)), (4, .pointer (some ⟨g9, 0, none⟩)), (5, .pointer (some ⟨g21, 0, none⟩)), (6, .bool false), (7, .pointer (some ⟨g33, 0, none⟩)), (8, .int .i64 0)]) _ W
  have yq := q.size
  refine CC.seq ?_
  refine CC.seq ?_
  refine CC.region ?_
  refine LL.val (R.move rfl rfl) rfl rfl rfl ?_
  refine LL.val (R.ltT rfl rfl rfl (by omega)) rfl rfl rfl ?_
  refine LL.val (R.move rfl rfl) rfl rfl rfl ?_
  refine LL.val (R.move rfl rfl) rfl rfl rfl ?_
  refine LL.val (R.pick rfl rfl rfl) rfl rfl rfl ?_
  refine LL.nilS ?_
  refine CC.no rfl ?_
  refine CC.exit ?_
  refine EE.thenX ?_
  refine EE.thenX ?_
  refine EE.inX ?_
  refine EE.thenN ?_
  refine CC.seq ?_
  refine CC.region ?_
  refine LL.val (R.move rfl rfl) rfl rfl rfl ?_
  have yq := q.size
  refine LL.call (R.call rfl rfl rfl) rfl rfl rfl (each_any l _ _ (hvF _ q) hlen) ?_
  rintro e W5 ⟨bk, a5, c5, rfl, rb, hr, hbk, hbo, b5⟩
  refine ⟨_, rfl, ?_⟩
  replace q := q.trans (b5.mono q.size)
  replace r4 := r4.up b5
  replace r10 := r10.up b5
  replace r22 := r22.up b5
  replace r34 := r34.up b5
  have hrdF := fun W' (hb : Below W5.heap.size W5 W') => (hrd.up b5).up hb
  have hrF := fun W' (hb : Below W5.heap.size W5 W') => hr.up hb
  have y5 := b5.size
  have lb := rb.lt
  clear b5 hr hrd
  refine LL.val (R.assign rfl rfl) rfl rfl rfl ?_
  refine LL.nilS ?_
  refine CC.seq ?_
  refine CC.seq ?_
  refine CC.region ?_
  refine LL.val (R.move rfl rfl) rfl rfl rfl ?_
  refine LL.val (R.eqFn rfl rfl rfl rfl) rfl rfl rfl ?_
  refine LL.nilS ?_
  refine CC.no rfl ?_
  refine CC.skip ?_
  refine EE.thenN ?_
  refine CC.seq ?_
  refine CC.seq ?_
  refine CC.region ?_
  have lb1 := rb.lt
  have lb2 := r4.lt
  have lb3 := r10.lt
  have lb4 := r22.lt
  have lb5 := r34.lt
  refine LL.alloc ([Value.int IntKind.i64 0]) rfl rfl rfl rfl rfl ?_
  intro Wb7 gb8 egb8 rb9 zb10 bb6
  replace rb := rb.up bb6
  replace q := q.trans (bb6.mono q.size)
  replace r4 := r4.up bb6
  replace r10 := r10.up bb6
  replace r22 := r22.up bb6
  replace r34 := r34.up bb6
  refine LL.store rfl rfl rfl rfl rb9 (by exact Nat.le_of_ble_eq_true rfl) rfl rfl rfl rfl ?_
  intro Wb12 rb13 bb11 zb14
  have hlbb11 := rb9.lt
  replace rb13 : RowL Wb12 _ 3 [Value.int IntKind.i64 0] := rb13
  clear rb9
  replace bb6 := bb6.grown bb11 bb6.size (by rintro k ⟨⟩; omega)
  replace rb := rb.gr bb11 (by have := rb.lt; omega)
  replace q := q.grown bb11 q.size (by rintro k ⟨⟩; omega)
  replace r4 := r4.gr bb11 (by have := r4.lt; omega)
  replace r10 := r10.gr bb11 (by have := r10.lt; omega)
  replace r22 := r22.gr bb11 (by have := r22.lt; omega)
  replace r34 := r34.gr bb11 (by have := r34.lt; omega)
  have rb9 := rb13
  clear rb13
  refine LL.nilS ?_
  refine CC.block ?_
  have hr := hrF _ bb6
  have hrd := hrdF _ bb6
  obtain ⟨bkl, hbl, hbB, hblt⟩ := bkl_own hr rfl hbo hbk rb.lt
  have hG := blocks_gives (eL l) (eL_v l).2.1 a5 _ c5 bk bkl Wb12 rfl (by have := (eL_v l).1; omega) rb hr hbl
  rw [eL_F h] at hG
  have hK128 : (blS ([] : List Ex)).length ≤ 128 := by simp [blS]
  obtain ⟨L, hL⟩ : ∃ L, blS ([] : List Ex) = L := ⟨_, rfl⟩
  have hLp : ∀ b ∈ L, v14[b.1.toNat]? = some b.2 ∧ 0 ≤ b.1 ∧ b.1 < 128 := fun b hb => by
    rw [← hL] at hb
    simp [blS] at hb
  rw [hL] at hG hrd hK128
  obtain ⟨K, hK⟩ : ∃ K, L.length = K := ⟨_, rfl⟩
  have hKv : (L.map (·.1)).length = K := by rw [List.length_map, hK]
  obtain ⟨av, cv, rfl, hcv⟩ := hrd.form hKv
  rw [hK] at hK128
  have qB := Below.refl Wb12.heap.size Wb12
  refine CC.keep [(3, .pointer (some ⟨g3, 0, none⟩)), (4, .pointer (some ⟨g9, 0, none⟩)), (5, .pointer (some ⟨g21, 0, none⟩)), (7, .pointer (some ⟨g33, 0, none⟩)), (9, .func (.func 45) #[] [Value.pointer (some ⟨bk, 0, none⟩)].toArray), (10, .pointer (some ⟨gb8, 0, none⟩))] ⟨rfl, rfl, rfl, rfl, rfl, rfl, trivial⟩ ?_
  refine CC.loopN 3 ?_
  have hV : LvE Wb12 w g3 g9 g21 g33 gb8 many v14 (.slice av K cv) L 0 := ⟨r4, r10, r22, r34, rb9, hrd, q⟩
  have jsz := q.size
  have j31 := r34.lt
  have j8 := rb9.lt
  clear hrd r22 r34 r10 r4 hrF hrdF hr rb bb6
  refine RN.step ?_
  refine CC.seq ?_
  refine CC.seq ?_
  refine CC.region ?_
  refine LL.val (R.load rfl rfl (I.ld1 rfl (RowL.cell rb9 rfl))) rfl rfl rfl ?_
  refine LL.val (R.ltT rfl rfl rfl (by omega)) rfl rfl rfl ?_
  refine LL.nilS ?_
  refine CC.yes rfl ?_
  refine CC.skip ?_
  refine EE.thenN ?_
  refine CC.seq ?_
  refine CC.block ?_
  refine CC.seq ?_
  refine CC.region ?_
  have lc1 := rb9.lt
  refine LL.alloc ([Value.int IntKind.i64 0]) rfl rfl rfl rfl rfl ?_
  intro Wc3 gc4 egc4 rc5 zc6 bc2
  replace q := q.trans (bc2.mono q.size)
  replace rb9 := rb9.up bc2
  replace qB := qB.trans (bc2.mono qB.size)
  refine LL.store rfl rfl rfl rfl rc5 (by exact Nat.le_of_ble_eq_true rfl) rfl rfl rfl rfl ?_
  intro Wc8 rc9 bc7 zc10
  have hlbc7 := rc5.lt
  replace rc9 : RowL Wc8 _ 3 [Value.int IntKind.i64 0] := rc9
  clear rc5
  replace bc2 := bc2.grown bc7 bc2.size (by rintro k ⟨⟩; omega)
  replace q := q.grown bc7 q.size (by rintro k ⟨⟩; omega)
  replace rb9 := rb9.gr bc7 (by have := rb9.lt; omega)
  replace qB := qB.grown bc7 qB.size (by rintro k ⟨⟩; omega)
  have rc5 := rc9
  clear rc9
  refine LL.nilS ?_
  refine CC.seq ?_
  refine CC.seq ?_
  refine CC.region ?_
  refine LL.val (R.move rfl rfl) rfl rfl rfl ?_
  refine LL.nilS ?_
  refine CC.block ?_
  have yB := qB.size
  have kn := rc5.lt
  clear rb9
  refine CC.rangeZ (γ := Unit) (gf := 45) (lb := [Value.pointer (some ⟨bk, 0, none⟩)]) (encs := rE) rfl rfl hG qB (fun k hk => by (try simp only at hk); omega) (fun _ => rfl) rfl
    (fun m (pre : List Bl) W' => Below Wb12.heap.size Wb12 W' ∧ RowL W' gc4 3 [.int .i64 (pre.length : Int)] ∧ (pre.length = 0 ∨ (pre.length : Int) < many))
    (fun m (pre : List Bl) W' => Below Wb12.heap.size Wb12 W' ∧ RowL W' gc4 3 [.int .i64 (pre.length : Int)] ∧ (many ≤ pre.length ∧ (pre.length = 1 ∨ (pre.length : Int) - 1 < many) ∧ 1 ≤ pre.length ∧ pre.length ≤ K))
    (fun W' => Below Wb12.heap.size Wb12 W' ∧ ∃ p : Nat, RowL W' gc4 3 [.int .i64 (p : Int)] ∧ ((p : Int) = if (if 1 < many then many else 1) < (K : Int) then (if 1 < many then many else 1) else (K : Int)))
    (fun m m' s X Y hs ht hg => ⟨hs.1.trans (ht.below yB hs.1.size), ht.row hs.2.1 (.inl kn), hs.2.2⟩)
    (fun m m' s X Y hs ht hg => ⟨hs.1.trans (ht.below yB hs.1.size), ht.row hs.2.1 (.inl kn), hs.2.2⟩)
    ⟨qB, rc5, .inl rfl⟩ ?hIA ?hIxA
    (fun x _ => sl [(3, .pointer (some ⟨g3, 0, none⟩)), (4, .pointer (some ⟨g9, 0, none⟩)), (5, .pointer (some ⟨g21, 0, none⟩)), (7, .pointer (some ⟨g33, 0, none⟩)), (10, .pointer (some ⟨gb8, 0, none⟩)), (11, .pointer (some ⟨gc4, 0, none⟩)), (12, .int .i64 x.1), (13, .int .i64 x.2)]) (fun _ _ _ => True) (fun x c => fun _ W W' row h hg hr => trivial) ?assign ?body ?after
  case hIA =>
    rintro m xs W' rfl ⟨h1, h2, h3⟩
    exact ⟨h1, _, h2, by rw [hK] at h3 ⊢; rcases h3 with h3 | h3 <;> split <;> split <;> omega⟩
  case hIxA =>
    rintro m pre W' hp ⟨h1, h2, h3⟩
    exact ⟨h1, pre.length, h2, by split <;> split <;> omega⟩
  case assign =>
    rintro l' m pre x W Kc hm ⟨h1, h2, h3⟩ hKc
    refine CC.seq ?_
    refine CC.region ?_
    refine LL.val (R.assign rfl rfl) rfl rfl rfl ?_
    refine LL.nilS ?_
    refine CC.region ?_
    refine LL.val (R.assign rfl rfl) rfl rfl rfl ?_
    refine LL.nil ?_
    exact EE.thenK fun a' F => hKc a' _ () (StaysZ.refl _ _ _) (Keeps.refl _ _) ⟨h1, h2, h3⟩ (F.keep _ ⟨rfl, rfl, rfl, rfl, rfl, rfl, rfl, rfl, trivial⟩) trivial
  case body =>
    rintro l' m pre ⟨f, d⟩ c W hm hl' hrl ⟨h1, hn, h3⟩ _ ⟨xs, hxs, tt, hp⟩
    rw [hxs] at hp
    have hget : L[pre.length]? = some (f, d) := by rw [← hp]; simp
    have hpk : pre.length < K := by rw [← hK]; exact (List.getElem?_eq_some_iff.1 hget).1
    have hxd : (pre ++ [(f, d)]).length = pre.length + 1 := by simp
    obtain ⟨hfd, hf0, hf1⟩ := hLp _ (List.mem_of_getElem? hget)
    simp only at hfd hf0 hf1
    obtain ⟨fn, rfl⟩ := Int.eq_ofNat_of_zero_le hf0
    rw [Int.toNat_natCast] at hfd
    have ySz := h1.size
    obtain ⟨rk, rr, rm, rw, rt, rd, bel⟩ := hV.lift h1
    obtain ⟨bv, ov, rfl, _, hc1⟩ := rd.one iEnc (i := pre.length) (t := (fn : Int)) (by simp [hget])
    have c1 := hc1 _ rfl
    have c2 : W.cell? ⟨g21, 0 + fn, none⟩ = some (.int .i64 d) := RowL.cell rm (by rw [show 0 + fn = fn by omega]; simp [hfd])
    have st := StaysZ.refl Wc8.heap.size m W
    have kp := Keeps.refl (fun k => k = bkl) W
    have hbW : bkl < W.heap.size := by omega
    have hbn : bkl ≠ gc4 := by omega
    clear hc1 rd bel hl' hrl hp hm hget hxs
    by_cases hmany : many ≤ (pre.length : Int) + 1
    · refine CC.block ?_
      refine CC.seq ?_
      refine CC.seq ?_
      refine CC.region ?_
      refine LL.val (R.load rfl rfl (I.ld1 rfl (RowL.cell hn rfl))) rfl rfl rfl ?_
      refine LL.val (R.load rfl rfl (I.ld1 rfl (RowL.cell rw rfl))) rfl rfl rfl ?_
      refine LL.val (R.len rfl rfl rfl rfl) rfl rfl rfl ?_
      refine LL.val (R.geF rfl rfl rfl (by omega)) rfl rfl rfl ?_
      refine LL.val (R.move rfl rfl) rfl rfl rfl ?_
      refine LL.val (R.move rfl rfl) rfl rfl rfl ?_
      refine LL.val (R.load rfl rfl (I.ld1 rfl (RowL.cell rw rfl))) rfl rfl rfl ?_
      refine LL.val (R.load rfl rfl (I.ld1 rfl (RowL.cell hn rfl))) rfl rfl rfl ?_
      refine LL.val (R.index rfl rfl rfl (I.ixS1 rfl (by omega))) rfl rfl rfl ?_
      refine LL.val (R.load rfl rfl (I.ld1 rfl (by assumption))) rfl rfl rfl ?_
      refine LL.val (R.neF rfl rfl rfl (by omega)) rfl rfl rfl ?_
      refine LL.val (R.pick rfl rfl rfl) rfl rfl rfl ?_
      refine LL.val (R.move rfl rfl) rfl rfl rfl ?_
      refine LL.val (R.move rfl rfl) rfl rfl rfl ?_
      refine LL.val (R.move rfl rfl) rfl rfl rfl ?_
      refine LL.val (R.index rfl rfl rfl (I.ixA1 rfl (by omega))) rfl rfl rfl ?_
      refine LL.val (R.load rfl rfl (I.ld1 rfl (by assumption))) rfl rfl rfl ?_
      refine LL.val (R.neF rfl rfl rfl (by omega)) rfl rfl rfl ?_
      refine LL.val (R.pick rfl rfl rfl) rfl rfl rfl ?_
      refine LL.nilS ?_
      refine CC.no rfl ?_
      refine CC.skip ?_
      refine EE.thenN ?_
      refine CC.seq ?_
      refine CC.region ?_
      refine LL.val (R.load rfl rfl (I.ld1 rfl (RowL.cell hn rfl))) rfl rfl rfl ?_
      refine LL.val (R.addNc rfl rfl rfl rfl (by omega)) rfl rfl rfl ?_
      refine LL.store rfl rfl rfl rfl hn (by exact Nat.le_of_ble_eq_true rfl) rfl rfl rfl rfl ?_
      intro We2 re3 be1 ze4
      have hlbe1 := hn.lt
      replace re3 : RowL We2 _ 3 [Value.int IntKind.i64 ↑(pre.length + 1)] := re3
      clear hn
      replace h1 := h1.grown be1 h1.size (by rintro k ⟨⟩; omega)
      replace rk := rk.gr be1 (by have := rk.lt; omega)
      replace rr := rr.gr be1 (by have := rr.lt; omega)
      replace rm := rm.gr be1 (by have := rm.lt; omega)
      replace rt := rt.gr be1 (by have := rt.lt; omega)
      replace rw := rw.gr be1 (by have := rw.lt; omega)
      replace c2 := cell_gr c2 be1 (by omega)
      replace st := st.trans (StaysZ.of_grown be1 (by omega))
      replace kp := kp.trans (Keeps.of_grown be1 fun k hk => by (try simp only at hk); omega)
      have hn := re3
      clear re3
      refine LL.nilS ?_
      refine CC.seq ?_
      refine CC.region ?_
      refine LL.val (R.load rfl rfl (I.ld1 rfl (RowL.cell rt rfl))) rfl rfl rfl ?_
      refine LL.val (R.eqT rfl rfl rfl (by omega)) rfl rfl rfl ?_
      refine LL.val (R.move rfl rfl) rfl rfl rfl ?_
      refine LL.val (R.load rfl rfl (I.ld1 rfl (RowL.cell hn rfl))) rfl rfl rfl ?_
      refine LL.val (R.load rfl rfl (I.ld1 rfl (RowL.cell rk rfl))) rfl rfl rfl ?_
      refine LL.val (R.geT rfl rfl rfl (by omega)) rfl rfl rfl ?_
      refine LL.val (R.pick rfl rfl rfl) rfl rfl rfl ?_
      refine LL.nilS ?_
      refine CC.yes rfl ?_
      refine CC.exit ?_
      refine EE.inX' rfl ?_
      exact EE.roundXZ ⟨st, rfl, h1, by rw [hxd]; exact hn, by rw [hxd]; omega, by rw [hxd]; omega, by rw [hxd]; omega, by rw [hxd]; omega⟩
    · refine CC.block ?_
      refine CC.seq ?_
      refine CC.seq ?_
      refine CC.region ?_
      refine LL.val (R.load rfl rfl (I.ld1 rfl (RowL.cell hn rfl))) rfl rfl rfl ?_
      refine LL.val (R.load rfl rfl (I.ld1 rfl (RowL.cell rw rfl))) rfl rfl rfl ?_
      refine LL.val (R.len rfl rfl rfl rfl) rfl rfl rfl ?_
      refine LL.val (R.geF rfl rfl rfl (by omega)) rfl rfl rfl ?_
      refine LL.val (R.move rfl rfl) rfl rfl rfl ?_
      refine LL.val (R.move rfl rfl) rfl rfl rfl ?_
      refine LL.val (R.load rfl rfl (I.ld1 rfl (RowL.cell rw rfl))) rfl rfl rfl ?_
      refine LL.val (R.load rfl rfl (I.ld1 rfl (RowL.cell hn rfl))) rfl rfl rfl ?_
      refine LL.val (R.index rfl rfl rfl (I.ixS1 rfl (by omega))) rfl rfl rfl ?_
      refine LL.val (R.load rfl rfl (I.ld1 rfl (by assumption))) rfl rfl rfl ?_
      refine LL.val (R.neF rfl rfl rfl (by omega)) rfl rfl rfl ?_
      refine LL.val (R.pick rfl rfl rfl) rfl rfl rfl ?_
      refine LL.val (R.move rfl rfl) rfl rfl rfl ?_
      refine LL.val (R.move rfl rfl) rfl rfl rfl ?_
      refine LL.val (R.move rfl rfl) rfl rfl rfl ?_
      refine LL.val (R.index rfl rfl rfl (I.ixA1 rfl (by omega))) rfl rfl rfl ?_
      refine LL.val (R.load rfl rfl (I.ld1 rfl (by assumption))) rfl rfl rfl ?_
      refine LL.val (R.neF rfl rfl rfl (by omega)) rfl rfl rfl ?_
      refine LL.val (R.pick rfl rfl rfl) rfl rfl rfl ?_
      refine LL.nilS ?_
      refine CC.no rfl ?_
      refine CC.skip ?_
      refine EE.thenN ?_
      refine CC.seq ?_
      refine CC.region ?_
      refine LL.val (R.load rfl rfl (I.ld1 rfl (RowL.cell hn rfl))) rfl rfl rfl ?_
      refine LL.val (R.addNc rfl rfl rfl rfl (by omega)) rfl rfl rfl ?_
      refine LL.store rfl rfl rfl rfl hn (by exact Nat.le_of_ble_eq_true rfl) rfl rfl rfl rfl ?_
      intro Wf2 rf3 bf1 zf4
      have hlbf1 := hn.lt
      replace rf3 : RowL Wf2 _ 3 [Value.int IntKind.i64 ↑(pre.length + 1)] := rf3
      clear hn
      replace h1 := h1.grown bf1 h1.size (by rintro k ⟨⟩; omega)
      replace rk := rk.gr bf1 (by have := rk.lt; omega)
      replace rr := rr.gr bf1 (by have := rr.lt; omega)
      replace rm := rm.gr bf1 (by have := rm.lt; omega)
      replace rt := rt.gr bf1 (by have := rt.lt; omega)
      replace rw := rw.gr bf1 (by have := rw.lt; omega)
      replace c2 := cell_gr c2 bf1 (by omega)
      replace st := st.trans (StaysZ.of_grown bf1 (by omega))
      replace kp := kp.trans (Keeps.of_grown bf1 fun k hk => by (try simp only at hk); omega)
      have hn := rf3
      clear rf3
      refine LL.nilS ?_
      refine CC.seq ?_
      refine CC.region ?_
      refine LL.val (R.load rfl rfl (I.ld1 rfl (RowL.cell rt rfl))) rfl rfl rfl ?_
      refine LL.val (R.eqT rfl rfl rfl (by omega)) rfl rfl rfl ?_
      refine LL.val (R.move rfl rfl) rfl rfl rfl ?_
      refine LL.val (R.load rfl rfl (I.ld1 rfl (RowL.cell hn rfl))) rfl rfl rfl ?_
      refine LL.val (R.load rfl rfl (I.ld1 rfl (RowL.cell rk rfl))) rfl rfl rfl ?_
      refine LL.val (R.geF rfl rfl rfl (by omega)) rfl rfl rfl ?_
      refine LL.val (R.pick rfl rfl rfl) rfl rfl rfl ?_
      refine LL.nilS ?_
      refine CC.no rfl ?_
      refine CC.skip ?_
      refine EE.inN ?_
      exact EE.roundNZ ⟨st, kp, h1, by rw [hxd]; exact hn, .inr (by rw [hxd]; omega)⟩
  case after =>
    rintro E0 W hE0 ⟨h1, p, hn, hcp⟩ hE01
    obtain ⟨rk, rr, rm, rw, rt, rd, bel⟩ := hV.lift h1
    have yz := h1.size
    have eE0 := (Array.getElem?_eq_some_iff.1 hE01).1
    refine EE.thenN ?_
    refine CC.seq ?_
    refine CC.region ?_
    refine LL.val (R.load rfl rfl (I.ld1 rfl (RowL.cell rt rfl))) rfl rfl rfl ?_
    refine LL.val (R.eqT rfl rfl rfl (by omega)) rfl rfl rfl ?_
    refine LL.val (R.move rfl rfl) rfl rfl rfl ?_
    refine LL.val (R.load rfl rfl (I.ld1 rfl (RowL.cell hn rfl))) rfl rfl rfl ?_
    refine LL.val (R.load rfl rfl (I.ld1 rfl (RowL.cell rw rfl))) rfl rfl rfl ?_
    refine LL.val (R.len rfl rfl rfl rfl) rfl rfl rfl ?_
    refine LL.val (R.load rfl rfl (I.ld1 rfl (RowL.cell rk rfl))) rfl rfl rfl ?_
    refine LL.val (R.max rfl rfl) rfl rfl rfl ?_
    refine LL.val (R.min rfl rfl) rfl rfl rfl ?_
    refine LL.val (R.neF rfl rfl rfl (by omega)) rfl rfl rfl ?_
    refine LL.val (R.pick rfl rfl rfl) rfl rfl rfl ?_
    refine LL.val (R.move rfl rfl) rfl rfl rfl ?_
    refine LL.val (R.load rfl rfl (I.ld1 rfl (RowL.cell rt rfl))) rfl rfl rfl ?_
    refine LL.val (R.eqF rfl rfl rfl (by omega)) rfl rfl rfl ?_
    refine LL.val (R.move rfl rfl) rfl rfl rfl ?_
    refine LL.skip rfl rfl ?_
    refine LL.skip rfl rfl ?_
    refine LL.skip rfl rfl ?_
    refine LL.skip rfl rfl ?_
    refine LL.val (R.pick rfl rfl rfl) rfl rfl rfl ?_
    refine LL.val (R.pick rfl rfl rfl) rfl rfl rfl ?_
    refine LL.nilS ?_
    refine CC.no rfl ?_
    refine CC.skip ?_
    refine EE.inN ?_
    refine EE.thenN ?_
    refine CC.seq ?_
    refine CC.seq ?_
    refine CC.region ?_
    refine LL.val (R.load rfl rfl (I.ld1 rfl (RowL.cell rt rfl))) rfl rfl rfl ?_
    refine LL.nilS ?_
    refine CC.region ?_
    have lg1 := hn.lt
    have lg2 := (Array.getElem?_eq_some_iff.1 hE01).1
    have lg3 := rk.lt
    have lg4 := rr.lt
    have lg5 := rm.lt
    have lg6 := rw.lt
    have lg7 := rt.lt
    refine LL.alloc ([Value.int IntKind.i64 0]) rfl rfl rfl rfl rfl ?_
    intro Wg9 gg10 egg10 rg11 zg12 bg8
    replace h1 := h1.trans (bg8.mono h1.size)
    replace hn := hn.up bg8
    replace hE01 := defer_up hE01 bg8
    replace rk := rk.up bg8
    replace rr := rr.up bg8
    replace rm := rm.up bg8
    replace rw := rw.up bg8
    replace rt := rt.up bg8
    replace rd := rd.up bg8
    replace bel := bel.trans (bg8.mono bel.size)
    refine LL.store rfl rfl rfl rfl rg11 (by exact Nat.le_of_ble_eq_true rfl) rfl rfl rfl rfl ?_
    intro Wg14 rg15 bg13 zg16
    have hlbg13 := rg11.lt
    replace rg15 : RowL Wg14 _ 3 [Value.int IntKind.i64 0] := rg15
    clear rg11
    replace bg8 := bg8.grown bg13 bg8.size (by rintro k ⟨⟩; omega)
    replace h1 := h1.grown bg13 h1.size (by rintro k ⟨⟩; omega)
    replace hn := hn.gr bg13 (by have := hn.lt; omega)
    replace hE01 := (bg13.block _ (Array.getElem?_eq_some_iff.1 hE01).1 (by simp; omega)).trans hE01
    replace rk := rk.gr bg13 (by have := rk.lt; omega)
    replace rr := rr.gr bg13 (by have := rr.lt; omega)
    replace rm := rm.gr bg13 (by have := rm.lt; omega)
    replace rw := rw.gr bg13 (by have := rw.lt; omega)
    replace rt := rt.gr bg13 (by have := rt.lt; omega)
    replace bel := bel.grown bg13 bel.size (by rintro k ⟨⟩; omega)
    have rg11 := rg15
    clear rg15
    refine LL.nilS ?_
    refine CC.region ?_
    refine LL.val (R.load rfl rfl (I.ld1 rfl (RowL.cell rg11 rfl))) rfl rfl rfl ?_
    refine LL.val (R.addIz (z := 1) rfl rfl rfl (by decide) (by decide)) rfl rfl rfl ?_
    refine LL.store rfl rfl rfl rfl rg11 (by exact Nat.le_of_ble_eq_true rfl) rfl rfl rfl rfl ?_
    intro Wg18 rg19 bg17 zg20
    have hlbg17 := rg11.lt
    replace rg19 : RowL Wg18 _ 3 [Value.int IntKind.i64 1] := rg19
    clear rg11
    replace bg8 := bg8.grown bg17 bg8.size (by rintro k ⟨⟩; omega)
    replace h1 := h1.grown bg17 h1.size (by rintro k ⟨⟩; omega)
    replace hn := hn.gr bg17 (by have := hn.lt; omega)
    replace hE01 := (bg17.block _ (Array.getElem?_eq_some_iff.1 hE01).1 (by simp; omega)).trans hE01
    replace rk := rk.gr bg17 (by have := rk.lt; omega)
    replace rr := rr.gr bg17 (by have := rr.lt; omega)
    replace rm := rm.gr bg17 (by have := rm.lt; omega)
    replace rw := rw.gr bg17 (by have := rw.lt; omega)
    replace rt := rt.gr bg17 (by have := rt.lt; omega)
    replace bel := bel.grown bg17 bel.size (by rintro k ⟨⟩; omega)
    have rg11 := rg19
    clear rg19
    refine LL.nil ?_
    refine EE.again ?_
    have rd := (hV.lift h1).rd
    have hV1 : LvE Wg18 w g3 g9 g21 g33 gg10 many v14 (.slice av K cv) L 1 := ⟨rk, rr, rm, rw, rg11, rd, bel⟩
    have hE0k : ∀ W', Below Wg18.heap.size Wg18 W' → W'.heap[E0]? = some (.deferred (some [])) := fun W' h => defer_up hE01 h
    have qA := h1
    have qB := Below.refl Wg18.heap.size Wg18
    have jsz := bel.size
    have jE := (Array.getElem?_eq_some_iff.1 hE01).1
    clear h1 hn hcp rt rd rm rw bg8 bg13 bg17 kn hE01 q yB rc5 bc2
    refine RN.keep [(3, .pointer (some ⟨g3, 0, none⟩)), (4, .pointer (some ⟨g9, 0, none⟩)), (5, .pointer (some ⟨g21, 0, none⟩)), (7, .pointer (some ⟨g33, 0, none⟩)), (9, .func (.func 45) #[] [Value.pointer (some ⟨bk, 0, none⟩)].toArray), (10, .pointer (some ⟨gg10, 0, none⟩))] ⟨rfl, rfl, rfl, rfl, rfl, rfl, trivial⟩ ?_
    refine RN.step ?_
    refine CC.seq ?_
    refine CC.seq ?_
    refine CC.region ?_
    refine LL.val (R.load rfl rfl (I.ld1 rfl (RowL.cell rg11 rfl))) rfl rfl rfl ?_
    refine LL.val (R.ltT rfl rfl rfl (by omega)) rfl rfl rfl ?_
    refine LL.nilS ?_
    refine CC.yes rfl ?_
    refine CC.skip ?_
    refine EE.thenN ?_
    refine CC.seq ?_
    refine CC.block ?_
    refine CC.seq ?_
    refine CC.region ?_
    have lh1 := rk.lt
    have lh2 := rr.lt
    have lh3 := rg11.lt
    refine LL.alloc ([Value.int IntKind.i64 0]) rfl rfl rfl rfl rfl ?_
    intro Wh5 gh6 egh6 rh7 zh8 bh4
    replace rk := rk.up bh4
    replace rr := rr.up bh4
    replace bel := bel.trans (bh4.mono bel.size)
    replace rg11 := rg11.up bh4
    replace qA := qA.trans (bh4.mono qA.size)
    replace qB := qB.trans (bh4.mono qB.size)
    refine LL.store rfl rfl rfl rfl rh7 (by exact Nat.le_of_ble_eq_true rfl) rfl rfl rfl rfl ?_
    intro Wh10 rh11 bh9 zh12
    have hlbh9 := rh7.lt
    replace rh11 : RowL Wh10 _ 3 [Value.int IntKind.i64 0] := rh11
    clear rh7
    replace bh4 := bh4.grown bh9 bh4.size (by rintro k ⟨⟩; omega)
    replace rk := rk.gr bh9 (by have := rk.lt; omega)
    replace rr := rr.gr bh9 (by have := rr.lt; omega)
    replace bel := bel.grown bh9 bel.size (by rintro k ⟨⟩; omega)
    replace rg11 := rg11.gr bh9 (by have := rg11.lt; omega)
    replace qA := qA.grown bh9 qA.size (by rintro k ⟨⟩; omega)
    replace qB := qB.grown bh9 qB.size (by rintro k ⟨⟩; omega)
    have rh7 := rh11
    clear rh11
    refine LL.nilS ?_
    refine CC.seq ?_
    refine CC.seq ?_
    refine CC.region ?_
    refine LL.val (R.move rfl rfl) rfl rfl rfl ?_
    refine LL.nilS ?_
    refine CC.block ?_
    have yB := qB.size
    have kn := rh7.lt
    clear rk rr rg11 bel
    refine CC.rangeZ (γ := Unit) (gf := 45) (lb := [Value.pointer (some ⟨bk, 0, none⟩)]) (encs := rE) rfl rfl hG qA (fun k hk => by (try simp only at hk); omega) (fun _ => rfl) rfl
      (fun m (pre : List Bl) W' => Below Wg18.heap.size Wg18 W' ∧ RowL W' gh6 3 [.int .i64 (pre.length : Int)] ∧ True)
      (fun m (pre : List Bl) W' => Below Wg18.heap.size Wg18 W' ∧ RowL W' gh6 3 [.int .i64 (pre.length : Int)] ∧ False)
      (fun W' => Below Wg18.heap.size Wg18 W' ∧ ∃ p : Nat, RowL W' gh6 3 [.int .i64 (p : Int)] ∧ (p : Int) = K)
      (fun m m' s X Y hs ht hg => ⟨hs.1.trans (ht.below yB hs.1.size), ht.row hs.2.1 (.inl kn), hs.2.2⟩)
      (fun m m' s X Y hs ht hg => ⟨hs.1.trans (ht.below yB hs.1.size), ht.row hs.2.1 (.inl kn), hs.2.2⟩)
      ⟨qB, rh7, trivial⟩ ?hIA ?hIxA
      (fun x _ => sl [(3, .pointer (some ⟨g3, 0, none⟩)), (4, .pointer (some ⟨g9, 0, none⟩)), (5, .pointer (some ⟨g21, 0, none⟩)), (7, .pointer (some ⟨g33, 0, none⟩)), (10, .pointer (some ⟨gg10, 0, none⟩)), (11, .pointer (some ⟨gh6, 0, none⟩)), (12, .int .i64 x.1), (13, .int .i64 x.2)]) (fun _ _ _ => True) (fun x c => fun _ W W' row h hg hr => trivial) ?assign ?body ?after
    case hIA =>
      rintro m xs W' hxs ⟨h1, h2, h3⟩
      rw [hxs, hK] at h2
      exact ⟨h1, _, h2, rfl⟩
    case hIxA =>
      rintro m pre W' hp ⟨h1, h2, h3⟩
      exact h3.elim
    case assign =>
      rintro l' m pre x W Kc hm ⟨h1, h2, h3⟩ hKc
      refine CC.seq ?_
      refine CC.region ?_
      refine LL.val (R.assign rfl rfl) rfl rfl rfl ?_
      refine LL.nilS ?_
      refine CC.region ?_
      refine LL.val (R.assign rfl rfl) rfl rfl rfl ?_
      refine LL.nil ?_
      exact EE.thenK fun a' F => hKc a' _ () (StaysZ.refl _ _ _) (Keeps.refl _ _) ⟨h1, h2, h3⟩ (F.keep _ ⟨rfl, rfl, rfl, rfl, rfl, rfl, rfl, rfl, trivial⟩) trivial
    case body =>
      rintro l' m pre ⟨f, d⟩ c W hm hl' hrl ⟨h1, hn, h3⟩ _ ⟨xs, hxs, tt, hp⟩
      rw [hxs] at hp
      have hget : L[pre.length]? = some (f, d) := by rw [← hp]; simp
      have hpk : pre.length < K := by rw [← hK]; exact (List.getElem?_eq_some_iff.1 hget).1
      have hxd : (pre ++ [(f, d)]).length = pre.length + 1 := by simp
      obtain ⟨hfd, hf0, hf1⟩ := hLp _ (List.mem_of_getElem? hget)
      simp only at hfd hf0 hf1
      obtain ⟨fn, rfl⟩ := Int.eq_ofNat_of_zero_le hf0
      rw [Int.toNat_natCast] at hfd
      have ySz := h1.size
      obtain ⟨rk, rr, rm, rw, rt, rd, bel⟩ := hV1.lift h1
      obtain ⟨bv, ov, rfl, _, hc1⟩ := rd.one iEnc (i := pre.length) (t := (fn : Int)) (by simp [hget])
      have c1 := hc1 _ rfl
      have c2 : W.cell? ⟨g21, 0 + fn, none⟩ = some (.int .i64 d) := RowL.cell rm (by rw [show 0 + fn = fn by omega]; simp [hfd])
      have st := StaysZ.refl Wh10.heap.size m W
      have kp := Keeps.refl (fun k => k = bkl) W
      have hbW : bkl < W.heap.size := by omega
      have hbn : bkl ≠ gh6 := by omega
      clear hc1 rd bel hl' hrl hp hm hget hxs
      refine CC.block ?_
      refine CC.seq ?_
      refine CC.seq ?_
      refine CC.region ?_
      refine LL.val (R.load rfl rfl (I.ld1 rfl (RowL.cell hn rfl))) rfl rfl rfl ?_
      refine LL.val (R.load rfl rfl (I.ld1 rfl (RowL.cell rw rfl))) rfl rfl rfl ?_
      refine LL.val (R.len rfl rfl rfl rfl) rfl rfl rfl ?_
      refine LL.val (R.geF rfl rfl rfl (by omega)) rfl rfl rfl ?_
      refine LL.val (R.move rfl rfl) rfl rfl rfl ?_
      refine LL.val (R.move rfl rfl) rfl rfl rfl ?_
      refine LL.val (R.load rfl rfl (I.ld1 rfl (RowL.cell rw rfl))) rfl rfl rfl ?_
      refine LL.val (R.load rfl rfl (I.ld1 rfl (RowL.cell hn rfl))) rfl rfl rfl ?_
      refine LL.val (R.index rfl rfl rfl (I.ixS1 rfl (by omega))) rfl rfl rfl ?_
      refine LL.val (R.load rfl rfl (I.ld1 rfl (by assumption))) rfl rfl rfl ?_
      refine LL.val (R.neF rfl rfl rfl (by omega)) rfl rfl rfl ?_
      refine LL.val (R.pick rfl rfl rfl) rfl rfl rfl ?_
      refine LL.val (R.move rfl rfl) rfl rfl rfl ?_
      refine LL.val (R.move rfl rfl) rfl rfl rfl ?_
      refine LL.val (R.move rfl rfl) rfl rfl rfl ?_
      refine LL.val (R.index rfl rfl rfl (I.ixA1 rfl (by omega))) rfl rfl rfl ?_
      refine LL.val (R.load rfl rfl (I.ld1 rfl (by assumption))) rfl rfl rfl ?_
      refine LL.val (R.neF rfl rfl rfl (by omega)) rfl rfl rfl ?_
      refine LL.val (R.pick rfl rfl rfl) rfl rfl rfl ?_
      refine LL.nilS ?_
      refine CC.no rfl ?_
      refine CC.skip ?_
      refine EE.thenN ?_
      refine CC.seq ?_
      refine CC.region ?_
      refine LL.val (R.load rfl rfl (I.ld1 rfl (RowL.cell hn rfl))) rfl rfl rfl ?_
      refine LL.val (R.addNc rfl rfl rfl rfl (by omega)) rfl rfl rfl ?_
      refine LL.store rfl rfl rfl rfl hn (by exact Nat.le_of_ble_eq_true rfl) rfl rfl rfl rfl ?_
      intro Wj2 rj3 bj1 zj4
      have hlbj1 := hn.lt
      replace rj3 : RowL Wj2 _ 3 [Value.int IntKind.i64 ↑(pre.length + 1)] := rj3
      clear hn
      replace h1 := h1.grown bj1 h1.size (by rintro k ⟨⟩; omega)
      replace rk := rk.gr bj1 (by have := rk.lt; omega)
      replace rr := rr.gr bj1 (by have := rr.lt; omega)
      replace rm := rm.gr bj1 (by have := rm.lt; omega)
      replace rt := rt.gr bj1 (by have := rt.lt; omega)
      replace rw := rw.gr bj1 (by have := rw.lt; omega)
      replace c2 := cell_gr c2 bj1 (by omega)
      replace st := st.trans (StaysZ.of_grown bj1 (by omega))
      replace kp := kp.trans (Keeps.of_grown bj1 fun k hk => by (try simp only at hk); omega)
      have hn := rj3
      clear rj3
      refine LL.nilS ?_
      refine CC.seq ?_
      refine CC.region ?_
      refine LL.val (R.load rfl rfl (I.ld1 rfl (RowL.cell rt rfl))) rfl rfl rfl ?_
      refine LL.val (R.eqF rfl rfl rfl (by omega)) rfl rfl rfl ?_
      refine LL.val (R.move rfl rfl) rfl rfl rfl ?_
      refine LL.skip rfl rfl ?_
      refine LL.skip rfl rfl ?_
      refine LL.skip rfl rfl ?_
      refine LL.val (R.pick rfl rfl rfl) rfl rfl rfl ?_
      refine LL.nilS ?_
      refine CC.no rfl ?_
      refine CC.skip ?_
      refine EE.inN ?_
      exact EE.roundNZ ⟨st, kp, h1, by rw [hxd]; exact hn, trivial⟩
    case after =>
      rintro E1 W hE1 ⟨h1, p, hn, hcp⟩ hE11
      obtain ⟨rk, rr, rm, rw, rt, rd, q⟩ := hV1.lift h1
      have yz := h1.size
      have hE01 := hE0k _ h1
      have eE01 := (Array.getElem?_eq_some_iff.1 hE01).1
      have eE1 := (Array.getElem?_eq_some_iff.1 hE11).1
      clear rd
      refine EE.thenN ?_
      refine CC.seq ?_
      refine CC.region ?_
      refine LL.val (R.load rfl rfl (I.ld1 rfl (RowL.cell rt rfl))) rfl rfl rfl ?_
      refine LL.val (R.eqF rfl rfl rfl (by omega)) rfl rfl rfl ?_
      refine LL.val (R.move rfl rfl) rfl rfl rfl ?_
      refine LL.skip rfl rfl ?_
      refine LL.skip rfl rfl ?_
      refine LL.skip rfl rfl ?_
      refine LL.skip rfl rfl ?_
      refine LL.skip rfl rfl ?_
      refine LL.skip rfl rfl ?_
      refine LL.skip rfl rfl ?_
      refine LL.val (R.pick rfl rfl rfl) rfl rfl rfl ?_
      refine LL.val (R.move rfl rfl) rfl rfl rfl ?_
      refine LL.val (R.load rfl rfl (I.ld1 rfl (RowL.cell rt rfl))) rfl rfl rfl ?_
      refine LL.val (R.eqT rfl rfl rfl (by omega)) rfl rfl rfl ?_
      refine LL.val (R.move rfl rfl) rfl rfl rfl ?_
      refine LL.val (R.load rfl rfl (I.ld1 rfl (RowL.cell hn rfl))) rfl rfl rfl ?_
      refine LL.val (R.load rfl rfl (I.ld1 rfl (RowL.cell rw rfl))) rfl rfl rfl ?_
      refine LL.val (R.len rfl rfl rfl rfl) rfl rfl rfl ?_
      refine LL.val (R.neF rfl rfl rfl (by omega)) rfl rfl rfl ?_
      refine LL.val (R.pick rfl rfl rfl) rfl rfl rfl ?_
      refine LL.val (R.pick rfl rfl rfl) rfl rfl rfl ?_
      refine LL.nilS ?_
      refine CC.no rfl ?_
      refine CC.skip ?_
      refine EE.inN ?_
      refine EE.thenN ?_
      refine CC.seq ?_
      refine CC.seq ?_
      refine CC.region ?_
      refine LL.val (R.load rfl rfl (I.ld1 rfl (RowL.cell rt rfl))) rfl rfl rfl ?_
      refine LL.nilS ?_
      refine CC.region ?_
      have lk1 := hn.lt
      have lk2 := (Array.getElem?_eq_some_iff.1 hE11).1
      have lk3 := rk.lt
      have lk4 := rr.lt
      have lk5 := rm.lt
      have lk6 := rw.lt
      have lk7 := rt.lt
      have lk8 := (Array.getElem?_eq_some_iff.1 hE01).1
      refine LL.alloc ([Value.int IntKind.i64 0]) rfl rfl rfl rfl rfl ?_
      intro Wk10 gk11 egk11 rk12 zk13 bk9
      replace h1 := h1.trans (bk9.mono h1.size)
      replace hn := hn.up bk9
      replace hE11 := defer_up hE11 bk9
      replace rk := rk.up bk9
      replace rr := rr.up bk9
      replace rm := rm.up bk9
      replace rw := rw.up bk9
      replace rt := rt.up bk9
      replace q := q.trans (bk9.mono q.size)
      replace hE01 := defer_up hE01 bk9
      refine LL.store rfl rfl rfl rfl rk12 (by exact Nat.le_of_ble_eq_true rfl) rfl rfl rfl rfl ?_
      intro Wk15 rk16 bk14 zk17
      have hlbk14 := rk12.lt
      replace rk16 : RowL Wk15 _ 3 [Value.int IntKind.i64 1] := rk16
      clear rk12
      replace bk9 := bk9.grown bk14 bk9.size (by rintro k ⟨⟩; omega)
      replace h1 := h1.grown bk14 h1.size (by rintro k ⟨⟩; omega)
      replace hn := hn.gr bk14 (by have := hn.lt; omega)
      replace hE11 := (bk14.block _ (Array.getElem?_eq_some_iff.1 hE11).1 (by simp; omega)).trans hE11
      replace rk := rk.gr bk14 (by have := rk.lt; omega)
      replace rr := rr.gr bk14 (by have := rr.lt; omega)
      replace rm := rm.gr bk14 (by have := rm.lt; omega)
      replace rw := rw.gr bk14 (by have := rw.lt; omega)
      replace rt := rt.gr bk14 (by have := rt.lt; omega)
      replace q := q.grown bk14 q.size (by rintro k ⟨⟩; omega)
      replace hE01 := (bk14.block _ (Array.getElem?_eq_some_iff.1 hE01).1 (by simp; omega)).trans hE01
      have rk12 := rk16
      clear rk16
      refine LL.nilS ?_
      refine CC.region ?_
      refine LL.val (R.load rfl rfl (I.ld1 rfl (RowL.cell rk12 rfl))) rfl rfl rfl ?_
      refine LL.val (R.addIz (z := 2) rfl rfl rfl (by decide) (by decide)) rfl rfl rfl ?_
      refine LL.store rfl rfl rfl rfl rk12 (by exact Nat.le_of_ble_eq_true rfl) rfl rfl rfl rfl ?_
      intro Wk19 rk20 bk18 zk21
      have hlbk18 := rk12.lt
      replace rk20 : RowL Wk19 _ 3 [Value.int IntKind.i64 2] := rk20
      clear rk12
      replace bk9 := bk9.grown bk18 bk9.size (by rintro k ⟨⟩; omega)
      replace h1 := h1.grown bk18 h1.size (by rintro k ⟨⟩; omega)
      replace hn := hn.gr bk18 (by have := hn.lt; omega)
      replace hE11 := (bk18.block _ (Array.getElem?_eq_some_iff.1 hE11).1 (by simp; omega)).trans hE11
      replace rk := rk.gr bk18 (by have := rk.lt; omega)
      replace rr := rr.gr bk18 (by have := rr.lt; omega)
      replace rm := rm.gr bk18 (by have := rm.lt; omega)
      replace rw := rw.gr bk18 (by have := rw.lt; omega)
      replace rt := rt.gr bk18 (by have := rt.lt; omega)
      replace q := q.grown bk18 q.size (by rintro k ⟨⟩; omega)
      replace hE01 := (bk18.block _ (Array.getElem?_eq_some_iff.1 hE01).1 (by simp; omega)).trans hE01
      have rk12 := rk20
      clear rk20
      refine LL.nil ?_
      refine EE.again ?_
      refine RN.step ?_
      refine CC.seq ?_
      refine CC.seq ?_
      refine CC.region ?_
      refine LL.val (R.load rfl rfl (I.ld1 rfl (RowL.cell rk12 rfl))) rfl rfl rfl ?_
      refine LL.val (R.ltF rfl rfl rfl (by omega)) rfl rfl rfl ?_
      refine LL.nilS ?_
      refine CC.no rfl ?_
      refine CC.exit ?_
      refine EE.thenX ?_
      refine EE.thenX ?_
      refine EE.inX ?_
      refine EE.thenN ?_
      refine CC.seq ?_
      refine CC.region ?_
      refine LL.call (R.call rfl rfl rfl) rfl rfl rfl (works_any _ (hsF _ q)) ?_
      rintro e Wk23 ⟨rfl, bk22⟩
      refine ⟨_, rfl, ?_⟩
      have zbk22 := bk22.size
      replace bk9 := bk9.trans (bk22.mono bk9.size)
      replace h1 := h1.trans (bk22.mono h1.size)
      replace hn := hn.up bk22
      replace hE11 := defer_up hE11 bk22
      replace rk := rk.up bk22
      replace rr := rr.up bk22
      replace rm := rm.up bk22
      replace rw := rw.up bk22
      replace rt := rt.up bk22
      replace q := q.trans (bk22.mono q.size)
      replace hE01 := defer_up hE01 bk22
      replace rk12 := rk12.up bk22
      refine LL.store rfl rfl rfl rfl rr (by exact Nat.le_of_ble_eq_true rfl) rfl rfl rfl rfl ?_
      intro Wk26 rk27 bk25 zk28
      have hlbk25 := rr.lt
      replace rk27 : RowL Wk26 _ 4 [Value.bool true] := rk27
      clear rr
      replace hn := hn.gr bk25 (by have := hn.lt; omega)
      replace hE11 := (bk25.block _ (Array.getElem?_eq_some_iff.1 hE11).1 (by simp; omega)).trans hE11
      replace rk := rk.gr bk25 (by have := rk.lt; omega)
      replace rm := rm.gr bk25 (by have := rm.lt; omega)
      replace rw := rw.gr bk25 (by have := rw.lt; omega)
      replace rt := rt.gr bk25 (by have := rt.lt; omega)
      replace q := q.grown bk25 q.size (by rintro k ⟨⟩; omega)
      replace hE01 := (bk25.block _ (Array.getElem?_eq_some_iff.1 hE01).1 (by simp; omega)).trans hE01
      replace rk12 := rk12.gr bk25 (by have := rk12.lt; omega)
      have rr := rk27
      clear rk27
      refine LL.nilS ?_
      refine CC.ret ?_
      have hE9 : g9 ≠ E1 := by omega
      refine EE.retNN hE01 hE11 (by omega) rfl ⟨_, rfl, lv1 rfl ((taken_up (taken_up rr hE9) (by omega)).cell rfl)⟩ ?_
      exact ⟨rfl, taken_bel (taken_bel q (by omega) (Nat.le_refl _)) (by omega) (Nat.le_refl _)⟩
theorem eachx_walk (v : Value) (l : List Ex) (many : Int) (w : World) (hs : Start w) (hv : ReadsT eE 3 w v l) : Calls Tryd.prog 4 #[v, .int .i64 many] w fun e w' => e = .returned (.bool true) ∧ Below w.heap.size w w' := by
  by_cases h30 : l.length ≤ 30
  · by_cases h : vL l
    · exact eachx_T v l many w hs hv h30 h
    · exact eachx_F v l many w hs hv h30 h
  · exact eachx_big v l many w hs hv (by omega)
end Go.Proofs.YtklfopclaonggaaDoor
