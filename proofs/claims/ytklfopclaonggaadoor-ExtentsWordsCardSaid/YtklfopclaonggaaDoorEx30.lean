/- The document's Read. -/
import Derived.Test.YtklfopclaonggaaDoorEx29
namespace Go.Proofs.YtklfopclaonggaaDoor
set_option linter.unusedVariables false
set_option linter.unusedSimpArgs false
open Go.RowKit Go.Shelf
set_option maxRecDepth 100000 in
set_option maxHeartbeats 8000000 in
theorem rread_any (ws : List Int) (w : World) (hl : ws.length = 10) (hw : ∀ (i : Nat) (z : Int), ws[i]? = some z → 0 ≤ z ∧ z < 18446744073709551616) : Calls Tryd.prog 27 #[wdV ws] w fun e w' => ((mapW ws ∧ ∃ v, e = .returned (.tuple #[v, .int .i64 0]) ∧ ReadsT eE 3 w' v (outZ ws)) ∨ (¬mapW ws ∧ e = .returned (.tuple #[.slice none 0 0, .int .i64 2]))) ∧ Below w.heap.size w w' := by
  have q := Below.refl w.heap.size w
  refine X.fn Tryd.func27 rfl (n := 49) rfl rfl ?_
  refine CC.seq ?_
  refine CC.region ?_
  refine LL.box _ rfl rfl rfl rfl rfl ?_
  intro W2 g3 eg3 r4 z5 b1
  replace q := q.trans (b1.mono q.size)
  refine LL.val (R.assign rfl rfl) rfl rfl rfl ?_
  refine LL.val (R.assign rfl rfl) rfl rfl rfl ?_
  refine LL.nilS ?_
  refine CC.seq ?_
  refine CC.region ?_
  refine LL.val (R.assign rfl rfl) rfl rfl rfl ?_
  refine LL.nilS ?_
  refine CC.seq ?_
  refine CC.seq ?_
  refine CC.region ?_
  refine LL.val (R.assign rfl rfl) rfl rfl rfl ?_
  refine LL.nilS ?_
  refine CC.block ?_
  have yw := q.size
  have l3 := r4.lt
  obtain ⟨B, hB⟩ : ∃ B, W2.heap.size = B := ⟨_, rfl⟩
  rw [hB] at l3 yw
  refine CC.loop (α := Nat × Value) (fun s => [(1, .pointer (some ⟨g3, 0, none⟩)), (4, s.2), (5, .int .i64 (s.1 : Int))]) (fun s W => s.1 ≤ 10 ∧ Below w.heap.size w W ∧ B ≤ W.heap.size ∧ RowL W g3 53 (intsZ .u64 ws) ∧ OwnsT eE 3 W B 41 s.2 (outZ (ws.take s.1))) (fun s => 10 - s.1) (0, .slice none 0 0) ⟨rfl, rfl, rfl, trivial⟩ ⟨by show 0 ≤ 10; omega, q, by omega, r4, OwnsT.none _ _ _⟩ ?_
  clear q r4
  rintro ⟨i, v⟩ W ⟨hi, q, yB, r4, o⟩
  simp only at hi o
  show CC none Tryd.prog _ 49 [] (sl [(1, .pointer (some ⟨g3, 0, none⟩)), (4, v), (5, .int .i64 (i : Int))]) _ W
  have yq := q.size
  by_cases hlt : i < 10
  case pos =>
    obtain ⟨z, hz⟩ : ∃ z, ws[i]? = some z := ⟨_, List.getElem?_eq_getElem (by omega)⟩
    have hzb := hw i z hz
    obtain ⟨x, rfl⟩ : ∃ x : Nat, z = (x : Int) := ⟨z.toNat, by omega⟩
    have hst := outZ_succ hz
    have hol := outZ_len (ws.take i)
    rw [List.length_take] at hol
    have c1 : W.cell? ⟨g3, 0 + i, none⟩ = some (.int .u64 (x : Int)) := RowL.cell r4 (by rw [show 0 + i = i by omega]; simp [hz])
    by_cases h0 : x = 0
    · rw [if_pos (by omega), List.append_nil] at hst
      refine CC.seq ?_
      refine CC.seq ?_
      refine CC.region ?_
      refine LL.val (R.move rfl rfl) rfl rfl rfl ?_
      refine LL.val (R.ltT rfl rfl rfl (by omega)) rfl rfl rfl ?_
      refine LL.nilS ?_
      refine CC.yes rfl ?_
      refine CC.skip ?_
      refine EE.thenN ?_
      refine CC.seq ?_
      refine CC.block ?_
      refine CC.seq ?_
      refine CC.seq ?_
      refine CC.region ?_
      refine LL.val (R.move rfl rfl) rfl rfl rfl ?_
      refine LL.val (R.index rfl rfl rfl (I.ixA1 rfl (by omega))) rfl rfl rfl ?_
      refine LL.val (R.load rfl rfl (I.ld1 rfl (by assumption))) rfl rfl rfl ?_
      refine LL.val (R.eqT rfl rfl rfl (by omega)) rfl rfl rfl ?_
      refine LL.nilS ?_
      refine CC.yes rfl ?_
      refine CC.exit ?_
      refine EE.thenX ?_
      refine EE.inX ?_
      refine EE.thenN ?_
      refine CC.region ?_
      refine LL.val (R.move rfl rfl) rfl rfl rfl ?_
      refine LL.val (R.addNc rfl rfl rfl rfl (by omega)) rfl rfl rfl ?_
      refine LL.val (R.assign rfl rfl) rfl rfl rfl ?_
      refine LL.nil ?_
      exact EE.round (i + 1, v) ⟨rfl, rfl, rfl, trivial⟩ ⟨by show i + 1 ≤ 10; omega, q, yB, r4, by show OwnsT eE 3 _ _ _ v (outZ (ws.take (i + 1))); rw [hst]; exact o⟩ (by show 10 - (i + 1) < 10 - i; omega)
    rw [if_neg (by omega)] at hst
    have hxb : x < 18446744073709551616 := by omega
    rw [Int.toNat_natCast] at hst
    refine CC.seq ?_
    refine CC.seq ?_
    refine CC.region ?_
    refine LL.val (R.move rfl rfl) rfl rfl rfl ?_
    refine LL.val (R.ltT rfl rfl rfl (by omega)) rfl rfl rfl ?_
    refine LL.nilS ?_
    refine CC.yes rfl ?_
    refine CC.skip ?_
    refine EE.thenN ?_
    refine CC.seq ?_
    refine CC.block ?_
    refine CC.seq ?_
    refine CC.seq ?_
    refine CC.region ?_
    refine LL.val (R.move rfl rfl) rfl rfl rfl ?_
    refine LL.val (R.index rfl rfl rfl (I.ixA1 rfl (by omega))) rfl rfl rfl ?_
    refine LL.val (R.load rfl rfl (I.ld1 rfl (by assumption))) rfl rfl rfl ?_
    refine LL.val (R.eqF rfl rfl rfl (by omega)) rfl rfl rfl ?_
    refine LL.nilS ?_
    refine CC.no rfl ?_
    refine CC.skip ?_
    refine EE.thenN ?_
    have hn3 := own_ne o l3
    refine CC.freeZ (fun W_ j => j < W_.heap.size ∧ (v.ownBlock ≠ some j)) (by kernel_rfl) (by kernel_rfl) (fun Wd b z => ?_)
    replace q := q.trans (b.mono q.size)
    replace r4 := r4.up b
    replace o := o.up b
    replace c1 := cell_up c1 b
    have hok : Kept (fun j => j < Wd.heap.size ∧ (v.ownBlock ≠ some j)) Wd Wd := Kept.refl _ _
    have fzr4 := fzRow (K := (fun j => j < Wd.heap.size ∧ (v.ownBlock ≠ some j))) r4 ⟨r4.lt, hn3⟩
    have fzc1 := fzCell (K := (fun j => j < Wd.heap.size ∧ (v.ownBlock ≠ some j))) c1 ⟨World.block_lt_of_cell? _ _ c1, hn3⟩
    clear b
    refine AA.pure 0 rfl hok (by kernel_rfl) (fun w' b' => R.move rfl rfl) rfl rfl ?_
    refine AA.pure 1 rfl hok (by kernel_rfl) (fun w' b' => R.move rfl rfl) rfl rfl ?_
    refine AA.pure 2 rfl hok (by kernel_rfl) (fun w' b' => R.index rfl rfl rfl (I.ixA1 rfl (by omega))) rfl rfl ?_
    refine AA.pure 3 rfl hok (by kernel_rfl) (fun w' b' => R.load rfl rfl (I.ld1 rfl (cell_kept c1 b' (by refine ⟨?_, ?_⟩ <;> omega)))) rfl rfl ?_
    refine AA.pureC 4 rfl hok (by kernel_rfl) (fun w' => (R.call rfl rfl rfl)) (fun w' b' => rfl_a _ w' (by first | assumption | omega)) rfl rfl ?_
    refine AA.pure 5 rfl hok (by kernel_rfl) (fun w' b' => R.convI rfl rfl rfl rfl (wrapI (by omega) (by omega))) rfl rfl ?_
    refine AA.pure 6 rfl hok (by kernel_rfl) (fun w' b' => R.move rfl rfl) rfl rfl ?_
    refine AA.pure 7 rfl hok (by kernel_rfl) (fun w' b' => R.index rfl rfl rfl (I.ixA1 rfl (by omega))) rfl rfl ?_
    refine AA.pure 8 rfl hok (by kernel_rfl) (fun w' b' => R.load rfl rfl (I.ld1 rfl (cell_kept c1 b' (by refine ⟨?_, ?_⟩ <;> omega)))) rfl rfl ?_
    refine AA.pureC 9 rfl hok (by kernel_rfl) (fun w' => (R.call rfl rfl rfl)) (fun w' b' => rfl_b _ w' (by first | assumption | omega)) rfl rfl ?_
    refine AA.pure 10 rfl hok (by kernel_rfl) (fun w' b' => R.convI rfl rfl rfl rfl (wrapI (by omega) (by omega))) rfl rfl ?_
    refine AA.pure 11 rfl hok (by kernel_rfl) (fun w' b' => R.move rfl rfl) rfl rfl ?_
    refine AA.pure 12 rfl hok (by kernel_rfl) (fun w' b' => R.index rfl rfl rfl (I.ixA1 rfl (by omega))) rfl rfl ?_
    refine AA.pure 13 rfl hok (by kernel_rfl) (fun w' b' => R.load rfl rfl (I.ld1 rfl (cell_kept c1 b' (by refine ⟨?_, ?_⟩ <;> omega)))) rfl rfl ?_
    refine AA.pureC 14 rfl hok (by kernel_rfl) (fun w' => (R.call rfl rfl rfl)) (fun w' b' => rfl_c _ w' (by first | assumption | omega)) rfl rfl ?_
    refine AA.pure 15 rfl hok (by kernel_rfl) (fun w' b' => R.convI rfl rfl rfl rfl (wrapI (by omega) (by omega))) rfl rfl ?_
    refine AA.pure 16 rfl hok (by kernel_rfl) (fun w' b' => R.buildV rfl rfl (v := .agg #[Value.int IntKind.i64 ↑(x % 65536), Value.int IntKind.i64 ↑(x / 65536 % 16777216), Value.int IntKind.i64 ↑(x / 1099511627776 % 65536)]) (fun _ => by kernel_rfl)) rfl rfl ?_
    refine AA.one 17 (by kernel_rfl) ?_
    have lb1 := r4.lt
    refine ZR.lit (e := 41) [Value.int IntKind.i64 ↑(x % 65536), Value.int IntKind.i64 ↑(x / 65536 % 16777216), Value.int IntKind.i64 ↑(x / 1099511627776 % 65536)] 1 rfl rfl rfl (fun _ => by kernel_rfl) rfl rfl ?_
    intro Wb3 gb4 egb4 rb5 zb6 bb2
    replace q := q.trans (bb2.mono q.size)
    replace r4 := r4.up bb2
    replace o := o.up bb2
    replace c1 := cell_up c1 bb2
    replace hok := hok.trans (bkept bb2 (fun j h => by have := h.1; have := hok.size; omega))
    have yb7 := hok.size
    refine ⟨hok, ?_⟩
    refine AA.one 18 (by kernel_rfl) ?_
    (refine SR.appendT2 rfl rfl rfl eEnc ElEx o (RowL.readsT (ts := [unpE x]) eEnc (by assumption) 1 (by simp)) (by simp [maxLen]; omega) (by simp; omega) (by omega) rfl rfl ?_; intro v' Wa oa gra hva; replace q := q.grown gra q.size (fun g hg => by have := own_ge o g hg; omega); replace r4 := r4.grO gra hn3; replace c1 := cell_grO c1 gra hn3; replace hok := hok.trans (grown_kept gra (fun j h => by have := h.1; have := hok.size; omega) (fun j h => h.2)); have hsz := gra.size; rw [← hst] at oa; clear o; refine ⟨hok, ?_⟩)
    refine AA.pure 19 rfl hok (by kernel_rfl) (fun w' b' => R.assign rfl rfl) rfl rfl ?_
    refine AA.done rfl ?_
    clear fzr4 fzc1 hok
    refine EE.inN ?_
    refine EE.thenN ?_
    refine CC.region ?_
    refine LL.val (R.move rfl rfl) rfl rfl rfl ?_
    refine LL.val (R.addNc rfl rfl rfl rfl (by omega)) rfl rfl rfl ?_
    refine LL.val (R.assign rfl rfl) rfl rfl rfl ?_
    refine LL.nil ?_
    exact EE.round (i + 1, v') ⟨rfl, rfl, rfl, trivial⟩ ⟨by show i + 1 ≤ 10; omega, q, by omega, r4, oa⟩ (by show 10 - (i + 1) < 10 - i; omega)
  case neg =>
    obtain rfl : i = 10 := by omega
    rw [show ws.take 10 = ws from List.take_of_length_le (by omega)] at o
    have hr := o.reads eEnc
    have hol := outZ_len ws
    have hlo : (outZ ws).length ≤ 1048576 := by omega
    have hrF := fun W' (hb : Below W.heap.size W W') => hr.up hb
    have qW := Below.refl W.heap.size W
    clear o
    by_cases hv : vL (outZ ws)
    case neg =>
      have hno : ¬mapW ws := fun h => hv h.1
      refine CC.seq ?_
      refine CC.seq ?_
      refine CC.region ?_
      refine LL.val (R.move rfl rfl) rfl rfl rfl ?_
      refine LL.val (R.ltF rfl rfl rfl (by omega)) rfl rfl rfl ?_
      refine LL.nilS ?_
      refine CC.no rfl ?_
      refine CC.exit ?_
      refine EE.thenX ?_
      refine EE.thenX ?_
      refine EE.inX ?_
      refine EE.thenN ?_
      refine CC.seq ?_
      refine CC.region ?_
      refine LL.val (R.move rfl rfl) rfl rfl rfl ?_
      refine LL.call (R.call rfl rfl rfl) rfl rfl rfl (rof_F _ _ _ (by first | assumption | omega) (by first | assumption | omega) (by first | assumption | omega)) ?_
      rintro e Wc2 ⟨vc3, rfl, kc4, bc1⟩
      refine ⟨_, rfl, ?_⟩
      have zbc1 := bc1.size
      replace q := q.trans (bc1.mono q.size)
      replace r4 := r4.up bc1
      replace hr := hr.up bc1
      replace qW := qW.trans (bc1.mono qW.size)
      refine LL.val (R.move rfl rfl) rfl rfl rfl ?_
      refine LL.val (R.extract rfl rfl rfl) rfl rfl rfl ?_
      refine LL.val (R.extract rfl rfl rfl) rfl rfl rfl ?_
      have lc6 := r4.lt
      refine LL.alloc (intsZ .i64 (List.replicate 128 0)) rfl rfl rfl rfl rfl ?_
      intro Wc8 gc9 egc9 rc10 zc11 bc7
      replace bc1 := bc1.trans (bc7.mono bc1.size)
      replace q := q.trans (bc7.mono q.size)
      replace r4 := r4.up bc7
      replace hr := hr.up bc7
      replace qW := qW.trans (bc7.mono qW.size)
      refine LL.storeAZ rfl rfl rfl rfl (by first | assumption | exact List.length_replicate | exact plL_len _ | exact plOf_len _ | simp) rc10 (by first | (rw [List.length_map]; exact (by first | assumption | exact List.length_replicate | exact plL_len _ | exact plOf_len _ | simp)) | simp) rfl rfl ?_
      intro Wc13 rc14 bc12 zc15
      have hlbc12 := rc10.lt
      clear rc10
      replace bc7 := bc7.grown bc12 bc7.size (by rintro k ⟨⟩; omega)
      replace bc1 := bc1.grown bc12 bc1.size (by rintro k ⟨⟩; omega)
      replace q := q.grown bc12 q.size (by rintro k ⟨⟩; omega)
      replace r4 := r4.gr bc12 (by have := r4.lt; omega)
      replace qW := qW.grown bc12 qW.size (by rintro k ⟨⟩; omega)
      have rc10 := rc14
      clear rc14
      refine LL.val (R.assign rfl rfl) rfl rfl rfl ?_
      refine LL.nilS ?_
      refine CC.seq ?_
      refine CC.seq ?_
      refine CC.grow (by kernel_rfl) (by kernel_rfl) ?_
      refine GG.val (fun w' b' => R.move rfl rfl) rfl rfl ?_
      refine GG.val (fun w' b' => R.not rfl rfl) rfl rfl ?_
      refine GG.val (fun w' b' => R.move rfl rfl) rfl rfl ?_
      refine GG.skip rfl rfl ?_
      refine GG.skip rfl rfl ?_
      refine GG.skip rfl rfl ?_
      refine GG.skip rfl rfl ?_
      refine GG.val (fun w' b' => R.pick rfl rfl rfl) rfl rfl ?_
      refine GG.nilQ (fun Wc20 bc19 => ?_)
      have zbc19 := bc19.size
      replace bc7 := bc7.trans (bc19.mono bc7.size)
      replace bc1 := bc1.trans (bc19.mono bc1.size)
      replace q := q.trans (bc19.mono q.size)
      replace r4 := r4.up bc19
      replace qW := qW.trans (bc19.mono qW.size)
      replace rc10 := rc10.up bc19
      refine EE.thenN ?_
      refine CC.yes rfl ?_
      refine CC.seq ?_
      refine CC.region ?_
      refine LL.val (R.assign rfl rfl) rfl rfl rfl ?_
      refine LL.val (R.assign rfl rfl) rfl rfl rfl ?_
      refine LL.nilS ?_
      refine CC.ret ?_
      refine EE.thenR ?_
      refine EE.ret _ rfl rfl ?_
      exact ⟨.inr ⟨hno, rfl⟩, q⟩
    have hwl := wrdZ_len (l := outZ ws) hv.1
    have hWd : ∀ w', Below W.heap.size W w' → Calls Tryd.prog 25 #[v] w' fun e w'' => e = .returned (wdV (wrdZ (outZ ws))) ∧ Below w'.heap.size w' w'' := fun w' b => rwords_T (outZ ws) _ w' (hrF _ b) hv
    by_cases he : wrdZ (outZ ws) = ws
    · refine CC.seq ?_
      refine CC.seq ?_
      refine CC.region ?_
      refine LL.val (R.move rfl rfl) rfl rfl rfl ?_
      refine LL.val (R.ltF rfl rfl rfl (by omega)) rfl rfl rfl ?_
      refine LL.nilS ?_
      refine CC.no rfl ?_
      refine CC.exit ?_
      refine EE.thenX ?_
      refine EE.thenX ?_
      refine EE.inX ?_
      refine EE.thenN ?_
      refine CC.seq ?_
      refine CC.region ?_
      refine LL.val (R.move rfl rfl) rfl rfl rfl ?_
      refine LL.call (R.call rfl rfl rfl) rfl rfl rfl (rof_T _ _ _ (by first | assumption | omega) (by first | assumption | omega) (by first | assumption | omega)) ?_
      rintro e Wd2 ⟨rfl, bd1⟩
      refine ⟨_, rfl, ?_⟩
      have zbd1 := bd1.size
      replace q := q.trans (bd1.mono q.size)
      replace r4 := r4.up bd1
      replace hr := hr.up bd1
      replace qW := qW.trans (bd1.mono qW.size)
      refine LL.val (R.move rfl rfl) rfl rfl rfl ?_
      refine LL.val (R.extract rfl rfl rfl) rfl rfl rfl ?_
      refine LL.val (R.extract rfl rfl rfl) rfl rfl rfl ?_
      have ld4 := r4.lt
      refine LL.alloc (intsZ .i64 (List.replicate 128 0)) rfl rfl rfl rfl rfl ?_
      intro Wd6 gd7 egd7 rd8 zd9 bd5
      replace bd1 := bd1.trans (bd5.mono bd1.size)
      replace q := q.trans (bd5.mono q.size)
      replace r4 := r4.up bd5
      replace hr := hr.up bd5
      replace qW := qW.trans (bd5.mono qW.size)
      refine LL.storeAZ rfl rfl rfl rfl (by first | assumption | exact List.length_replicate | exact plL_len _ | exact plOf_len _ | simp) rd8 (by first | (rw [List.length_map]; exact (by first | assumption | exact List.length_replicate | exact plL_len _ | exact plOf_len _ | simp)) | simp) rfl rfl ?_
      intro Wd11 rd12 bd10 zd13
      have hlbd10 := rd8.lt
      clear rd8
      replace bd5 := bd5.grown bd10 bd5.size (by rintro k ⟨⟩; omega)
      replace bd1 := bd1.grown bd10 bd1.size (by rintro k ⟨⟩; omega)
      replace q := q.grown bd10 q.size (by rintro k ⟨⟩; omega)
      replace r4 := r4.gr bd10 (by have := r4.lt; omega)
      replace qW := qW.grown bd10 qW.size (by rintro k ⟨⟩; omega)
      have rd8 := rd12
      clear rd12
      refine LL.val (R.assign rfl rfl) rfl rfl rfl ?_
      refine LL.nilS ?_
      refine CC.seq ?_
      refine CC.seq ?_
      refine CC.grow (by kernel_rfl) (by kernel_rfl) ?_
      refine GG.val (fun w' b' => R.move rfl rfl) rfl rfl ?_
      refine GG.val (fun w' b' => R.not rfl rfl) rfl rfl ?_
      refine GG.val (fun w' b' => R.move rfl rfl) rfl rfl ?_
      refine GG.val (fun w' b' => R.move rfl rfl) rfl rfl ?_
      refine GG.call (fun w' => (R.call rfl rfl rfl)) rfl rfl (fun w' b' => (hWd w' (qW.trans (b'.mono qW.size))).mono fun e W' h => ⟨h.1, b'.trans (h.2.mono b'.size)⟩) ?_
      refine GG.val (fun w' b' => R.loadZ rfl rfl (r4.up b') rfl rfl (by first | assumption | exact List.length_replicate | exact plL_len _ | exact plOf_len _ | simp)) rfl rfl ?_
      refine GG.val (fun w' b' => R.neZT rfl rfl rfl Tryd.underlying53 Tryd.underlying52 rfl (by decide) rfl (by kernel_rfl) (by assumption) (by assumption) (by assumption)) rfl rfl ?_
      refine GG.val (fun w' b' => R.pick rfl rfl rfl) rfl rfl ?_
      refine GG.nilQ (fun Wd18 bd17 => ?_)
      have zbd17 := bd17.size
      replace bd5 := bd5.trans (bd17.mono bd5.size)
      replace bd1 := bd1.trans (bd17.mono bd1.size)
      replace q := q.trans (bd17.mono q.size)
      replace r4 := r4.up bd17
      replace qW := qW.trans (bd17.mono qW.size)
      replace rd8 := rd8.up bd17
      refine EE.thenN ?_
      refine CC.no rfl ?_
      refine CC.skip ?_
      refine EE.thenN ?_
      refine CC.seq ?_
      refine CC.region ?_
      refine LL.val (R.move rfl rfl) rfl rfl rfl ?_
      refine LL.val (R.assign rfl rfl) rfl rfl rfl ?_
      refine LL.val (R.assign rfl rfl) rfl rfl rfl ?_
      refine LL.nilS ?_
      refine CC.ret ?_
      refine EE.ret _ rfl rfl ?_
      exact ⟨.inl ⟨⟨hv, he⟩, _, rfl, hrF _ qW⟩, q⟩
    · have hno : ¬mapW ws := fun h => he h.2
      refine CC.seq ?_
      refine CC.seq ?_
      refine CC.region ?_
      refine LL.val (R.move rfl rfl) rfl rfl rfl ?_
      refine LL.val (R.ltF rfl rfl rfl (by omega)) rfl rfl rfl ?_
      refine LL.nilS ?_
      refine CC.no rfl ?_
      refine CC.exit ?_
      refine EE.thenX ?_
      refine EE.thenX ?_
      refine EE.inX ?_
      refine EE.thenN ?_
      refine CC.seq ?_
      refine CC.region ?_
      refine LL.val (R.move rfl rfl) rfl rfl rfl ?_
      refine LL.call (R.call rfl rfl rfl) rfl rfl rfl (rof_T _ _ _ (by first | assumption | omega) (by first | assumption | omega) (by first | assumption | omega)) ?_
      rintro e We2 ⟨rfl, be1⟩
      refine ⟨_, rfl, ?_⟩
      have zbe1 := be1.size
      replace q := q.trans (be1.mono q.size)
      replace r4 := r4.up be1
      replace hr := hr.up be1
      replace qW := qW.trans (be1.mono qW.size)
      refine LL.val (R.move rfl rfl) rfl rfl rfl ?_
      refine LL.val (R.extract rfl rfl rfl) rfl rfl rfl ?_
      refine LL.val (R.extract rfl rfl rfl) rfl rfl rfl ?_
      have le4 := r4.lt
      refine LL.alloc (intsZ .i64 (List.replicate 128 0)) rfl rfl rfl rfl rfl ?_
      intro We6 ge7 ege7 re8 ze9 be5
      replace be1 := be1.trans (be5.mono be1.size)
      replace q := q.trans (be5.mono q.size)
      replace r4 := r4.up be5
      replace hr := hr.up be5
      replace qW := qW.trans (be5.mono qW.size)
      refine LL.storeAZ rfl rfl rfl rfl (by first | assumption | exact List.length_replicate | exact plL_len _ | exact plOf_len _ | simp) re8 (by first | (rw [List.length_map]; exact (by first | assumption | exact List.length_replicate | exact plL_len _ | exact plOf_len _ | simp)) | simp) rfl rfl ?_
      intro We11 re12 be10 ze13
      have hlbe10 := re8.lt
      clear re8
      replace be5 := be5.grown be10 be5.size (by rintro k ⟨⟩; omega)
      replace be1 := be1.grown be10 be1.size (by rintro k ⟨⟩; omega)
      replace q := q.grown be10 q.size (by rintro k ⟨⟩; omega)
      replace r4 := r4.gr be10 (by have := r4.lt; omega)
      replace qW := qW.grown be10 qW.size (by rintro k ⟨⟩; omega)
      have re8 := re12
      clear re12
      refine LL.val (R.assign rfl rfl) rfl rfl rfl ?_
      refine LL.nilS ?_
      refine CC.seq ?_
      refine CC.seq ?_
      refine CC.grow (by kernel_rfl) (by kernel_rfl) ?_
      refine GG.val (fun w' b' => R.move rfl rfl) rfl rfl ?_
      refine GG.val (fun w' b' => R.not rfl rfl) rfl rfl ?_
      refine GG.val (fun w' b' => R.move rfl rfl) rfl rfl ?_
      refine GG.val (fun w' b' => R.move rfl rfl) rfl rfl ?_
      refine GG.call (fun w' => (R.call rfl rfl rfl)) rfl rfl (fun w' b' => (hWd w' (qW.trans (b'.mono qW.size))).mono fun e W' h => ⟨h.1, b'.trans (h.2.mono b'.size)⟩) ?_
      refine GG.val (fun w' b' => R.loadZ rfl rfl (r4.up b') rfl rfl (by first | assumption | exact List.length_replicate | exact plL_len _ | exact plOf_len _ | simp)) rfl rfl ?_
      refine GG.val (fun w' b' => R.neZF rfl rfl rfl Tryd.underlying53 Tryd.underlying52 rfl (by decide) rfl (by kernel_rfl) (by assumption) (by assumption) (by assumption)) rfl rfl ?_
      refine GG.val (fun w' b' => R.pick rfl rfl rfl) rfl rfl ?_
      refine GG.nilQ (fun We18 be17 => ?_)
      have zbe17 := be17.size
      replace be5 := be5.trans (be17.mono be5.size)
      replace be1 := be1.trans (be17.mono be1.size)
      replace q := q.trans (be17.mono q.size)
      replace r4 := r4.up be17
      replace qW := qW.trans (be17.mono qW.size)
      replace re8 := re8.up be17
      refine EE.thenN ?_
      refine CC.yes rfl ?_
      refine CC.seq ?_
      refine CC.region ?_
      refine LL.val (R.assign rfl rfl) rfl rfl rfl ?_
      refine LL.val (R.assign rfl rfl) rfl rfl rfl ?_
      refine LL.nilS ?_
      refine CC.ret ?_
      refine EE.thenR ?_
      refine EE.ret _ rfl rfl ?_
      exact ⟨.inr ⟨hno, rfl⟩, q⟩
end Go.Proofs.YtklfopclaonggaaDoor
