/- extents: equal lists; the statements' small functions. extents: is a block in one of some runs; the rows of the statements. -/
import Derived.Test.YtklfopclaonggaaDoorEf
namespace Go.Proofs.YtklfopclaonggaaDoor
set_option linter.unusedVariables false
set_option linter.unusedSimpArgs false
open Go.RowKit Go.Shelf
theorem put_T {l : List Ex} {f d k : Nat} (v : Value) (w : World) (hv : ReadsT eE 3 w v l) (h : okPut l ((f : Int), (d : Int), (k : Int))) (hn : (gat (nz (setN (plL l) f d k))).length ≤ 10) : Calls Tryd.prog 18 #[v, .agg #[.int .i64 (f : Int), .int .i64 (d : Int), .int .i64 (k : Int)]] w fun e w' => ∃ v1 v2, e = .returned (.tuple #[v1, v2, .int .i64 0]) ∧ ReadsT eE 3 w' v1 (gat (nz (setN (plL l) f d k))) ∧ ReadsT rE 2 w' v2 (gatR (dvF (plL l) f k)) ∧ Below w.heap.size w w' :=
  (put_any l f d k v w hv h.1 h.2.1).mono fun e w' ⟨hc, hb⟩ => by
    rcases hc with ⟨h1, _⟩ | ⟨_, h1, _⟩ | ⟨_, _, v1, v2, h3, h4, h5⟩
    · exact absurd h h1
    · omega
    · exact ⟨v1, v2, h3, h4, h5, hb⟩
theorem put_L {l : List Ex} {f d k : Nat} (v : Value) (w : World) (hv : ReadsT eE 3 w v l) (h : okPut l ((f : Int), (d : Int), (k : Int))) (hn : 10 < (gat (nz (setN (plL l) f d k))).length) : Calls Tryd.prog 18 #[v, .agg #[.int .i64 (f : Int), .int .i64 (d : Int), .int .i64 (k : Int)]] w fun e w' => e = .returned (.tuple #[.slice none 0 0, .slice none 0 0, .int .i64 3]) ∧ Below w.heap.size w w' :=
  (put_any l f d k v w hv h.1 h.2.1).mono fun e w' ⟨hc, hb⟩ => by
    rcases hc with ⟨h1, _⟩ | ⟨_, _, h3⟩ | ⟨_, h1, _⟩
    · exact absurd h h1
    · exact ⟨h3, hb⟩
    · omega
theorem put_F {l : List Ex} (x : Ex) (v : Value) (w : World) (hv : ReadsT eE 3 w v l) (hlen : l.length ≤ 1048576) (h : ¬okPut l x) : Calls Tryd.prog 18 #[v, exV x] w fun e w' => e = .returned (.tuple #[.slice none 0 0, .slice none 0 0, .int .i64 2]) ∧ Below w.heap.size w w' := by
  by_cases hb : vL l ∧ mayE x
  · obtain ⟨hl, hm⟩ := hb
    obtain ⟨f, d, k, rfl, _⟩ := pkZ_nat hm
    exact (put_any l f d k v w hv hl hm).mono fun e w' ⟨hc, hb⟩ => by
      rcases hc with ⟨_, h3⟩ | ⟨h1, _⟩ | ⟨h1, _⟩
      · exact ⟨h3, hb⟩
      · exact absurd h1 h
      · exact absurd h1 h
  · exact put_bad l x v w hv hlen (by by_cases hl : vL l; exact .inr fun hm => hb ⟨hl, hm⟩; exact .inl hl)
set_option maxRecDepth 100000 in
set_option maxHeartbeats 8000000 in
theorem slist_any (va vb : Value) (xs ys : List Ex) (w : World) (ha : ReadsT eE 3 w va xs) (hb : ReadsT eE 3 w vb ys) (hlx : xs.length ≤ 1048576) (hly : ys.length ≤ 1048576) :
    Calls Tryd.prog 20 #[va, vb] w fun e w' => e = .returned (.bool (decide (xs = ys))) ∧ Below w.heap.size w w' := by
  have q := Below.refl w.heap.size w
  obtain ⟨N, hN⟩ : ∃ N, xs.length = N := ⟨_, rfl⟩
  obtain ⟨N2, hN2⟩ : ∃ N, ys.length = N := ⟨_, rfl⟩
  obtain ⟨a, cap, rfl, hc⟩ := ha.form hN
  obtain ⟨a2, cap2, rfl, hc2⟩ := hb.form hN2
  rw [hN] at hlx
  rw [hN2] at hly
  have haF : ∀ W, Below w.heap.size w W → ReadsT eE 3 W (.slice a N cap) xs := fun W h => ha.up h
  have hbF : ∀ W, Below w.heap.size w W → ReadsT eE 3 W (.slice a2 N2 cap2) ys := fun W h => hb.up h
  clear ha hb
  by_cases hne : N = N2
  case neg =>
    rw [decide_eq_false (fun e => hne (by rw [← hN, ← hN2, e]))]
    refine X.fn Tryd.func20 rfl (n := 26) rfl rfl ?_
    refine CC.seq ?_
    refine CC.region ?_
    refine LL.val (R.assign rfl rfl) rfl rfl rfl ?_
    refine LL.nilS ?_
    refine CC.seq ?_
    refine CC.seq ?_
    refine CC.region ?_
    refine LL.val (R.move rfl rfl) rfl rfl rfl ?_
    refine LL.val (R.len rfl rfl rfl rfl) rfl rfl rfl ?_
    refine LL.val (R.move rfl rfl) rfl rfl rfl ?_
    refine LL.val (R.len rfl rfl rfl rfl) rfl rfl rfl ?_
    refine LL.val (R.neT rfl rfl rfl (by omega)) rfl rfl rfl ?_
    refine LL.nilS ?_
    refine CC.yes rfl ?_
    refine CC.seq ?_
    refine CC.region ?_
    refine LL.val (R.assign rfl rfl) rfl rfl rfl ?_
    refine LL.nilS ?_
    refine CC.ret ?_
    refine EE.thenR ?_
    refine EE.ret _ rfl rfl ?_
    exact ⟨rfl, q⟩
  subst hne
  refine X.fn Tryd.func20 rfl (n := 26) rfl rfl ?_
  refine CC.seq ?_
  refine CC.region ?_
  refine LL.val (R.assign rfl rfl) rfl rfl rfl ?_
  refine LL.nilS ?_
  refine CC.seq ?_
  refine CC.seq ?_
  refine CC.region ?_
  refine LL.val (R.move rfl rfl) rfl rfl rfl ?_
  refine LL.val (R.len rfl rfl rfl rfl) rfl rfl rfl ?_
  refine LL.val (R.move rfl rfl) rfl rfl rfl ?_
  refine LL.val (R.len rfl rfl rfl rfl) rfl rfl rfl ?_
  refine LL.val (R.neF rfl rfl rfl (by omega)) rfl rfl rfl ?_
  refine LL.nilS ?_
  refine CC.no rfl ?_
  refine CC.skip ?_
  refine EE.thenN ?_
  refine CC.seq ?_
  refine CC.seq ?_
  refine CC.region ?_
  refine LL.val (R.assign rfl rfl) rfl rfl rfl ?_
  refine LL.nilS ?_
  refine CC.block ?_
  refine CC.loop (α := Nat) (fun i => [(0, .slice a N cap), (1, .slice a2 N cap2), (5, .int .i64 (i : Int))]) (fun i W => i ≤ N ∧ Below w.heap.size w W ∧ xs.take i = ys.take i) (fun i => N - i) 0 ⟨rfl, rfl, rfl, trivial⟩ ⟨by omega, q, by simp⟩ ?_
  clear q
  rintro i W ⟨hi, q, ht⟩
  show CC none Tryd.prog _ 26 [] (sl [(0, .slice a N cap), (1, .slice a2 N cap2), (5, .int .i64 (i : Int))]) _ W
  have yq := q.size
  by_cases hlt : i < N
  case neg =>
    obtain rfl : i = N := by omega
    rw [List.take_of_length_le (by omega), List.take_of_length_le (by omega)] at ht
    rw [decide_eq_true ht]
    refine CC.seq ?_
    refine CC.seq ?_
    refine CC.region ?_
    refine LL.val (R.move rfl rfl) rfl rfl rfl ?_
    refine LL.val (R.move rfl rfl) rfl rfl rfl ?_
    refine LL.val (R.len rfl rfl rfl rfl) rfl rfl rfl ?_
    refine LL.val (R.ltF rfl rfl rfl (by omega)) rfl rfl rfl ?_
    refine LL.nilS ?_
    refine CC.no rfl ?_
    refine CC.exit ?_
    refine EE.thenX ?_
    refine EE.thenX ?_
    refine EE.inX ?_
    refine EE.thenN ?_
    refine CC.seq ?_
    refine CC.region ?_
    refine LL.val (R.assign rfl rfl) rfl rfl rfl ?_
    refine LL.nilS ?_
    refine CC.ret ?_
    refine EE.ret _ rfl rfl ?_
    exact ⟨rfl, q⟩
  obtain ⟨x, hx⟩ : ∃ x, xs[i]? = some x := ⟨_, List.getElem?_eq_getElem (by omega)⟩
  obtain ⟨y, hy⟩ : ∃ y, ys[i]? = some y := ⟨_, List.getElem?_eq_getElem (by omega)⟩
  obtain ⟨bk, off, rfl, hbk, hcs⟩ := (haF W q).get eEnc hx
  obtain ⟨bk2, off2, rfl, hbk2, hcs2⟩ := (hbF W q).get eEnc hy
  have hcs : Cells W ⟨bk, off + i * 3, none⟩ [.int .i64 x.1, .int .i64 x.2.1, .int .i64 x.2.2] := hcs
  have hcs2 : Cells W ⟨bk2, off2 + i * 3, none⟩ [.int .i64 y.1, .int .i64 y.2.1, .int .i64 y.2.2] := hcs2
  by_cases he : x.1 = y.1 ∧ x.2.1 = y.2.1 ∧ x.2.2 = y.2.2
  · have hxy : x = y := Prod.ext he.1 (Prod.ext he.2.1 he.2.2)
    have ht' : xs.take (i + 1) = ys.take (i + 1) := by rw [List.take_add_one, List.take_add_one, ht, hx, hy, hxy]
    refine CC.seq ?_
    refine CC.seq ?_
    refine CC.region ?_
    refine LL.val (R.move rfl rfl) rfl rfl rfl ?_
    refine LL.val (R.move rfl rfl) rfl rfl rfl ?_
    refine LL.val (R.len rfl rfl rfl rfl) rfl rfl rfl ?_
    refine LL.val (R.ltT rfl rfl rfl (by omega)) rfl rfl rfl ?_
    refine LL.nilS ?_
    refine CC.yes rfl ?_
    refine CC.skip ?_
    refine EE.thenN ?_
    refine CC.seq ?_
    refine CC.block ?_
    refine CC.seq ?_
    refine CC.quietB (by kernel_rfl) (by kernel_rfl) (fun Wc2 bc1 zc3 => ?_)
    replace q := q.trans (bc1.mono q.size)
    replace hcs := hcs.up bc1
    replace hcs2 := hcs2.up bc1
    refine SS.val (R.move rfl rfl) rfl rfl ?_
    refine SS.val (R.move rfl rfl) rfl rfl ?_
    refine SS.val (R.index rfl rfl rfl (I.ixS rfl (by omega))) rfl rfl ?_
    refine SS.val (R.load rfl rfl (I.ldNc (by assumption) rfl rfl)) rfl rfl ?_
    refine SS.val (R.move rfl rfl) rfl rfl ?_
    refine SS.val (R.move rfl rfl) rfl rfl ?_
    refine SS.val (R.index rfl rfl rfl (I.ixS rfl (by omega))) rfl rfl ?_
    refine SS.val (R.load rfl rfl (I.ldNc (by assumption) rfl rfl)) rfl rfl ?_
    refine SS.val (R.neST (p := (x.1 : Int) = y.1 ∧ (x.2.1 : Int) = y.2.1 ∧ (x.2.2 : Int) = y.2.2) (bs := [decide ((x.1 : Int) = y.1), decide ((x.2.1 : Int) = y.2.1), decide ((x.2.2 : Int) = y.2.2)]) rfl rfl rfl rfl (by kernel_rfl) (by kernel_rfl) (by simp) (by first | assumption | omega | exact ⟨rfl, rfl⟩ | exact fun h => h ⟨rfl, rfl⟩)) rfl rfl ?_
    refine SS.nilQ ?_
    refine EE.thenN ?_
    refine CC.no rfl ?_
    refine CC.skip ?_
    refine EE.inN ?_
    refine EE.thenN ?_
    refine CC.region ?_
    refine LL.val (R.move rfl rfl) rfl rfl rfl ?_
    refine LL.val (R.addNc rfl rfl rfl rfl (by omega)) rfl rfl rfl ?_
    refine LL.val (R.assign rfl rfl) rfl rfl rfl ?_
    refine LL.nil ?_
    exact EE.round (i + 1) ⟨rfl, rfl, rfl, trivial⟩ ⟨by omega, q, ht'⟩ (by omega)
  · rw [decide_eq_false (fun e => he (by rw [e, hy] at hx; cases hx; exact ⟨rfl, rfl, rfl⟩))]
    refine CC.seq ?_
    refine CC.seq ?_
    refine CC.region ?_
    refine LL.val (R.move rfl rfl) rfl rfl rfl ?_
    refine LL.val (R.move rfl rfl) rfl rfl rfl ?_
    refine LL.val (R.len rfl rfl rfl rfl) rfl rfl rfl ?_
    refine LL.val (R.ltT rfl rfl rfl (by omega)) rfl rfl rfl ?_
    refine LL.nilS ?_
    refine CC.yes rfl ?_
    refine CC.skip ?_
    refine EE.thenN ?_
    refine CC.seq ?_
    refine CC.block ?_
    refine CC.seq ?_
    refine CC.quietB (by kernel_rfl) (by kernel_rfl) (fun Wd2 bd1 zd3 => ?_)
    replace q := q.trans (bd1.mono q.size)
    replace hcs := hcs.up bd1
    replace hcs2 := hcs2.up bd1
    refine SS.val (R.move rfl rfl) rfl rfl ?_
    refine SS.val (R.move rfl rfl) rfl rfl ?_
    refine SS.val (R.index rfl rfl rfl (I.ixS rfl (by omega))) rfl rfl ?_
    refine SS.val (R.load rfl rfl (I.ldNc (by assumption) rfl rfl)) rfl rfl ?_
    refine SS.val (R.move rfl rfl) rfl rfl ?_
    refine SS.val (R.move rfl rfl) rfl rfl ?_
    refine SS.val (R.index rfl rfl rfl (I.ixS rfl (by omega))) rfl rfl ?_
    refine SS.val (R.load rfl rfl (I.ldNc (by assumption) rfl rfl)) rfl rfl ?_
    refine SS.val (R.neSF (p := (x.1 : Int) = y.1 ∧ (x.2.1 : Int) = y.2.1 ∧ (x.2.2 : Int) = y.2.2) (bs := [decide ((x.1 : Int) = y.1), decide ((x.2.1 : Int) = y.2.1), decide ((x.2.2 : Int) = y.2.2)]) rfl rfl rfl rfl (by kernel_rfl) (by kernel_rfl) (by simp) (by first | assumption | omega | exact ⟨rfl, rfl⟩ | exact fun h => h ⟨rfl, rfl⟩)) rfl rfl ?_
    refine SS.nilQ ?_
    refine EE.thenN ?_
    refine CC.yes rfl ?_
    refine CC.seq ?_
    refine CC.region ?_
    refine LL.val (R.assign rfl rfl) rfl rfl rfl ?_
    refine LL.nilS ?_
    refine CC.ret ?_
    refine EE.inR ?_
    refine EE.thenR ?_
    refine EE.thenR ?_
    refine EE.inR ?_
    refine EE.thenR ?_
    refine EE.ret _ rfl rfl ?_
    exact ⟨rfl, q⟩
set_option maxRecDepth 100000 in
set_option maxHeartbeats 8000000 in
theorem sruns_any (va vb : Value) (xs ys : List Bl) (w : World) (ha : ReadsT rE 2 w va xs) (hb : ReadsT rE 2 w vb ys) (hlx : xs.length ≤ 1048576) (hly : ys.length ≤ 1048576) :
    Calls Tryd.prog 21 #[va, vb] w fun e w' => e = .returned (.bool (decide (xs = ys))) ∧ Below w.heap.size w w' := by
  have q := Below.refl w.heap.size w
  obtain ⟨N, hN⟩ : ∃ N, xs.length = N := ⟨_, rfl⟩
  obtain ⟨N2, hN2⟩ : ∃ N, ys.length = N := ⟨_, rfl⟩
  obtain ⟨a, cap, rfl, hc⟩ := ha.form hN
  obtain ⟨a2, cap2, rfl, hc2⟩ := hb.form hN2
  rw [hN] at hlx
  rw [hN2] at hly
  have haF : ∀ W, Below w.heap.size w W → ReadsT rE 2 W (.slice a N cap) xs := fun W h => ha.up h
  have hbF : ∀ W, Below w.heap.size w W → ReadsT rE 2 W (.slice a2 N2 cap2) ys := fun W h => hb.up h
  clear ha hb
  by_cases hne : N = N2
  case neg =>
    rw [decide_eq_false (fun e => hne (by rw [← hN, ← hN2, e]))]
    refine X.fn Tryd.func21 rfl (n := 26) rfl rfl ?_
    refine CC.seq ?_
    refine CC.region ?_
    refine LL.val (R.assign rfl rfl) rfl rfl rfl ?_
    refine LL.nilS ?_
    refine CC.seq ?_
    refine CC.seq ?_
    refine CC.region ?_
    refine LL.val (R.move rfl rfl) rfl rfl rfl ?_
    refine LL.val (R.len rfl rfl rfl rfl) rfl rfl rfl ?_
    refine LL.val (R.move rfl rfl) rfl rfl rfl ?_
    refine LL.val (R.len rfl rfl rfl rfl) rfl rfl rfl ?_
    refine LL.val (R.neT rfl rfl rfl (by omega)) rfl rfl rfl ?_
    refine LL.nilS ?_
    refine CC.yes rfl ?_
    refine CC.seq ?_
    refine CC.region ?_
    refine LL.val (R.assign rfl rfl) rfl rfl rfl ?_
    refine LL.nilS ?_
    refine CC.ret ?_
    refine EE.thenR ?_
    refine EE.ret _ rfl rfl ?_
    exact ⟨rfl, q⟩
  subst hne
  refine X.fn Tryd.func21 rfl (n := 26) rfl rfl ?_
  refine CC.seq ?_
  refine CC.region ?_
  refine LL.val (R.assign rfl rfl) rfl rfl rfl ?_
  refine LL.nilS ?_
  refine CC.seq ?_
  refine CC.seq ?_
  refine CC.region ?_
  refine LL.val (R.move rfl rfl) rfl rfl rfl ?_
  refine LL.val (R.len rfl rfl rfl rfl) rfl rfl rfl ?_
  refine LL.val (R.move rfl rfl) rfl rfl rfl ?_
  refine LL.val (R.len rfl rfl rfl rfl) rfl rfl rfl ?_
  refine LL.val (R.neF rfl rfl rfl (by omega)) rfl rfl rfl ?_
  refine LL.nilS ?_
  refine CC.no rfl ?_
  refine CC.skip ?_
  refine EE.thenN ?_
  refine CC.seq ?_
  refine CC.seq ?_
  refine CC.region ?_
  refine LL.val (R.assign rfl rfl) rfl rfl rfl ?_
  refine LL.nilS ?_
  refine CC.block ?_
  refine CC.loop (α := Nat) (fun i => [(0, .slice a N cap), (1, .slice a2 N cap2), (5, .int .i64 (i : Int))]) (fun i W => i ≤ N ∧ Below w.heap.size w W ∧ xs.take i = ys.take i) (fun i => N - i) 0 ⟨rfl, rfl, rfl, trivial⟩ ⟨by omega, q, by simp⟩ ?_
  clear q
  rintro i W ⟨hi, q, ht⟩
  show CC none Tryd.prog _ 26 [] (sl [(0, .slice a N cap), (1, .slice a2 N cap2), (5, .int .i64 (i : Int))]) _ W
  have yq := q.size
  by_cases hlt : i < N
  case neg =>
    obtain rfl : i = N := by omega
    rw [List.take_of_length_le (by omega), List.take_of_length_le (by omega)] at ht
    rw [decide_eq_true ht]
    refine CC.seq ?_
    refine CC.seq ?_
    refine CC.region ?_
    refine LL.val (R.move rfl rfl) rfl rfl rfl ?_
    refine LL.val (R.move rfl rfl) rfl rfl rfl ?_
    refine LL.val (R.len rfl rfl rfl rfl) rfl rfl rfl ?_
    refine LL.val (R.ltF rfl rfl rfl (by omega)) rfl rfl rfl ?_
    refine LL.nilS ?_
    refine CC.no rfl ?_
    refine CC.exit ?_
    refine EE.thenX ?_
    refine EE.thenX ?_
    refine EE.inX ?_
    refine EE.thenN ?_
    refine CC.seq ?_
    refine CC.region ?_
    refine LL.val (R.assign rfl rfl) rfl rfl rfl ?_
    refine LL.nilS ?_
    refine CC.ret ?_
    refine EE.ret _ rfl rfl ?_
    exact ⟨rfl, q⟩
  obtain ⟨x, hx⟩ : ∃ x, xs[i]? = some x := ⟨_, List.getElem?_eq_getElem (by omega)⟩
  obtain ⟨y, hy⟩ : ∃ y, ys[i]? = some y := ⟨_, List.getElem?_eq_getElem (by omega)⟩
  obtain ⟨bk, off, rfl, hbk, hcs⟩ := (haF W q).get rEnc hx
  obtain ⟨bk2, off2, rfl, hbk2, hcs2⟩ := (hbF W q).get rEnc hy
  have hcs : Cells W ⟨bk, off + i * 2, none⟩ [.int .i64 x.1, .int .i64 x.2] := hcs
  have hcs2 : Cells W ⟨bk2, off2 + i * 2, none⟩ [.int .i64 y.1, .int .i64 y.2] := hcs2
  by_cases he : x.1 = y.1 ∧ x.2 = y.2
  · have hxy : x = y := Prod.ext he.1 he.2
    have ht' : xs.take (i + 1) = ys.take (i + 1) := by rw [List.take_add_one, List.take_add_one, ht, hx, hy, hxy]
    refine CC.seq ?_
    refine CC.seq ?_
    refine CC.region ?_
    refine LL.val (R.move rfl rfl) rfl rfl rfl ?_
    refine LL.val (R.move rfl rfl) rfl rfl rfl ?_
    refine LL.val (R.len rfl rfl rfl rfl) rfl rfl rfl ?_
    refine LL.val (R.ltT rfl rfl rfl (by omega)) rfl rfl rfl ?_
    refine LL.nilS ?_
    refine CC.yes rfl ?_
    refine CC.skip ?_
    refine EE.thenN ?_
    refine CC.seq ?_
    refine CC.block ?_
    refine CC.seq ?_
    refine CC.quietB (by kernel_rfl) (by kernel_rfl) (fun Wc2 bc1 zc3 => ?_)
    replace q := q.trans (bc1.mono q.size)
    replace hcs := hcs.up bc1
    replace hcs2 := hcs2.up bc1
    refine SS.val (R.move rfl rfl) rfl rfl ?_
    refine SS.val (R.move rfl rfl) rfl rfl ?_
    refine SS.val (R.index rfl rfl rfl (I.ixS rfl (by omega))) rfl rfl ?_
    refine SS.val (R.load rfl rfl (I.ldNc (by assumption) rfl rfl)) rfl rfl ?_
    refine SS.val (R.move rfl rfl) rfl rfl ?_
    refine SS.val (R.move rfl rfl) rfl rfl ?_
    refine SS.val (R.index rfl rfl rfl (I.ixS rfl (by omega))) rfl rfl ?_
    refine SS.val (R.load rfl rfl (I.ldNc (by assumption) rfl rfl)) rfl rfl ?_
    refine SS.val (R.neST (p := (x.1 : Int) = y.1 ∧ (x.2 : Int) = y.2) (bs := [decide ((x.1 : Int) = y.1), decide ((x.2 : Int) = y.2)]) rfl rfl rfl rfl (by kernel_rfl) (by kernel_rfl) (by simp) (by first | assumption | omega | exact ⟨rfl, rfl⟩ | exact fun h => h ⟨rfl, rfl⟩)) rfl rfl ?_
    refine SS.nilQ ?_
    refine EE.thenN ?_
    refine CC.no rfl ?_
    refine CC.skip ?_
    refine EE.inN ?_
    refine EE.thenN ?_
    refine CC.region ?_
    refine LL.val (R.move rfl rfl) rfl rfl rfl ?_
    refine LL.val (R.addNc rfl rfl rfl rfl (by omega)) rfl rfl rfl ?_
    refine LL.val (R.assign rfl rfl) rfl rfl rfl ?_
    refine LL.nil ?_
    exact EE.round (i + 1) ⟨rfl, rfl, rfl, trivial⟩ ⟨by omega, q, ht'⟩ (by omega)
  · rw [decide_eq_false (fun e => he (by rw [e, hy] at hx; cases hx; exact ⟨rfl, rfl⟩))]
    refine CC.seq ?_
    refine CC.seq ?_
    refine CC.region ?_
    refine LL.val (R.move rfl rfl) rfl rfl rfl ?_
    refine LL.val (R.move rfl rfl) rfl rfl rfl ?_
    refine LL.val (R.len rfl rfl rfl rfl) rfl rfl rfl ?_
    refine LL.val (R.ltT rfl rfl rfl (by omega)) rfl rfl rfl ?_
    refine LL.nilS ?_
    refine CC.yes rfl ?_
    refine CC.skip ?_
    refine EE.thenN ?_
    refine CC.seq ?_
    refine CC.block ?_
    refine CC.seq ?_
    refine CC.quietB (by kernel_rfl) (by kernel_rfl) (fun Wd2 bd1 zd3 => ?_)
    replace q := q.trans (bd1.mono q.size)
    replace hcs := hcs.up bd1
    replace hcs2 := hcs2.up bd1
    refine SS.val (R.move rfl rfl) rfl rfl ?_
    refine SS.val (R.move rfl rfl) rfl rfl ?_
    refine SS.val (R.index rfl rfl rfl (I.ixS rfl (by omega))) rfl rfl ?_
    refine SS.val (R.load rfl rfl (I.ldNc (by assumption) rfl rfl)) rfl rfl ?_
    refine SS.val (R.move rfl rfl) rfl rfl ?_
    refine SS.val (R.move rfl rfl) rfl rfl ?_
    refine SS.val (R.index rfl rfl rfl (I.ixS rfl (by omega))) rfl rfl ?_
    refine SS.val (R.load rfl rfl (I.ldNc (by assumption) rfl rfl)) rfl rfl ?_
    refine SS.val (R.neSF (p := (x.1 : Int) = y.1 ∧ (x.2 : Int) = y.2) (bs := [decide ((x.1 : Int) = y.1), decide ((x.2 : Int) = y.2)]) rfl rfl rfl rfl (by kernel_rfl) (by kernel_rfl) (by simp) (by first | assumption | omega | exact ⟨rfl, rfl⟩ | exact fun h => h ⟨rfl, rfl⟩)) rfl rfl ?_
    refine SS.nilQ ?_
    refine EE.thenN ?_
    refine CC.yes rfl ?_
    refine CC.seq ?_
    refine CC.region ?_
    refine LL.val (R.assign rfl rfl) rfl rfl rfl ?_
    refine LL.nilS ?_
    refine CC.ret ?_
    refine EE.inR ?_
    refine EE.thenR ?_
    refine EE.thenR ?_
    refine EE.inR ?_
    refine EE.thenR ?_
    refine EE.ret _ rfl rfl ?_
    exact ⟨rfl, q⟩
set_option maxRecDepth 100000 in
theorem num_any (a : Int) (w : World) : Calls Tryd.prog 13 #[.int .i64 a] w fun e w' => e = .returned (.int .i64 a) ∧ w = w' := by
  refine X.fn Tryd.func13 rfl (n := 4) rfl rfl ?_
  refine CC.seq ?_
  refine CC.region ?_
  refine LL.val (R.assign rfl rfl) rfl rfl rfl ?_
  refine LL.nilS ?_
  refine CC.seq ?_
  refine CC.region ?_
  refine LL.val (R.move rfl rfl) rfl rfl rfl ?_
  refine LL.val (R.assign rfl rfl) rfl rfl rfl ?_
  refine LL.nilS ?_
  refine CC.ret ?_
  refine EE.ret _ rfl rfl ?_
  exact ⟨rfl, rfl⟩
set_option maxRecDepth 100000 in
set_option maxHeartbeats 8000000 in
theorem in_any (v : Value) (rs : List Bl) (d : Int) (w : World) (hv : ReadsT rE 2 w v rs) (hlen : rs.length ≤ 1048576) (hb : ∀ r ∈ rs, litB r) (hd : 0 ≤ d ∧ d ≤ 4096) :
    Calls Tryd.prog 28 #[v, .int .i64 d] w fun e w' => (∃ b : Bool, e = .returned (.bool b) ∧ (b = true ↔ inR rs d)) ∧ Below w.heap.size w w' := by
  have q := Below.refl w.heap.size w
  obtain ⟨N, hN⟩ : ∃ N, rs.length = N := ⟨_, rfl⟩
  obtain ⟨a, cap, rfl, hc⟩ := hv.form hN
  rw [hN] at hlen
  have haF : ∀ W, Below w.heap.size w W → ReadsT rE 2 W (.slice a N cap) rs := fun W h => hv.up h
  clear hv
  refine X.fn Tryd.func28 rfl (n := 34) rfl rfl ?_
  refine CC.seq ?_
  refine CC.region ?_
  refine LL.val (R.assign rfl rfl) rfl rfl rfl ?_
  refine LL.nilS ?_
  refine CC.seq ?_
  refine CC.seq ?_
  refine CC.region ?_
  refine LL.val (R.assign rfl rfl) rfl rfl rfl ?_
  refine LL.nilS ?_
  refine CC.block ?_
  refine CC.loop (α := Nat) (fun i => [(0, .slice a N cap), (1, .int .i64 d), (5, .int .i64 (i : Int))]) (fun i W => i ≤ N ∧ Below w.heap.size w W ∧ ∀ j r, j < i → rs[j]? = some r → ¬(r.1 ≤ d ∧ d - r.1 < r.2)) (fun i => N - i) 0 ⟨rfl, rfl, rfl, trivial⟩ ⟨by omega, q, fun j r h => by omega⟩ ?_
  clear q
  rintro i W ⟨hi, q, ht⟩
  show CC none Tryd.prog _ 34 [] (sl [(0, .slice a N cap), (1, .int .i64 d), (5, .int .i64 (i : Int))]) _ W
  have yq := q.size
  by_cases hlt : i < N
  case neg =>
    have hno : ¬inR rs d := fun ⟨r, hr, h⟩ => by
      obtain ⟨j, hj, rfl⟩ := List.mem_iff_getElem.1 hr
      exact ht j _ (by omega) (List.getElem?_eq_getElem hj) h
    refine CC.seq ?_
    refine CC.seq ?_
    refine CC.region ?_
    refine LL.val (R.move rfl rfl) rfl rfl rfl ?_
    refine LL.val (R.move rfl rfl) rfl rfl rfl ?_
    refine LL.val (R.len rfl rfl rfl rfl) rfl rfl rfl ?_
    refine LL.val (R.ltF rfl rfl rfl (by omega)) rfl rfl rfl ?_
    refine LL.nilS ?_
    refine CC.no rfl ?_
    refine CC.exit ?_
    refine EE.thenX ?_
    refine EE.thenX ?_
    refine EE.inX ?_
    refine EE.thenN ?_
    refine CC.seq ?_
    refine CC.region ?_
    refine LL.val (R.assign rfl rfl) rfl rfl rfl ?_
    refine LL.nilS ?_
    refine CC.ret ?_
    refine EE.ret _ rfl rfl ?_
    exact ⟨⟨false, rfl, by simp [hno]⟩, q⟩
  obtain ⟨x, hx⟩ : ∃ x, rs[i]? = some x := ⟨_, List.getElem?_eq_getElem (by omega)⟩
  obtain ⟨bk, off, rfl, hbk, hcs⟩ := (haF W q).get rEnc hx
  have c1 := hcs.at (j := 0) rfl
  have c2 := hcs.at (j := 1) rfl
  have hbx := hb x (List.mem_of_getElem? hx)
  unfold litB at hbx
  clear hcs
  by_cases h1 : x.1 ≤ d ∧ d - x.1 < x.2
  · have hyes : inR rs d := ⟨x, List.mem_of_getElem? hx, h1⟩
    refine CC.seq ?_
    refine CC.seq ?_
    refine CC.region ?_
    refine LL.val (R.move rfl rfl) rfl rfl rfl ?_
    refine LL.val (R.move rfl rfl) rfl rfl rfl ?_
    refine LL.val (R.len rfl rfl rfl rfl) rfl rfl rfl ?_
    refine LL.val (R.ltT rfl rfl rfl (by omega)) rfl rfl rfl ?_
    refine LL.nilS ?_
    refine CC.yes rfl ?_
    refine CC.skip ?_
    refine EE.thenN ?_
    refine CC.seq ?_
    refine CC.block ?_
    refine CC.seq ?_
    refine CC.quietB (by kernel_rfl) (by kernel_rfl) (fun Wb2 bb1 zb3 => ?_)
    replace q := q.trans (bb1.mono q.size)
    replace c1 := cell_up c1 bb1
    replace c2 := cell_up c2 bb1
    refine SS.val (R.move rfl rfl) rfl rfl ?_
    refine SS.val (R.move rfl rfl) rfl rfl ?_
    refine SS.val (R.move rfl rfl) rfl rfl ?_
    refine SS.val (R.index rfl rfl rfl (I.ixS rfl (by omega))) rfl rfl ?_
    refine SS.val (R.field rfl rfl (I.fld rfl)) rfl rfl ?_
    refine SS.val (R.load rfl rfl (I.ld1 rfl (by assumption))) rfl rfl ?_
    refine SS.val (R.geT rfl rfl rfl (by omega)) rfl rfl ?_
    refine SS.val (R.move rfl rfl) rfl rfl ?_
    refine SS.val (R.move rfl rfl) rfl rfl ?_
    refine SS.val (R.move rfl rfl) rfl rfl ?_
    refine SS.val (R.move rfl rfl) rfl rfl ?_
    refine SS.val (R.index rfl rfl rfl (I.ixS rfl (by omega))) rfl rfl ?_
    refine SS.val (R.field rfl rfl (I.fld rfl)) rfl rfl ?_
    refine SS.val (R.load rfl rfl (I.ld1 rfl (by assumption))) rfl rfl ?_
    refine SS.val (R.subI rfl rfl rfl (by omega)) rfl rfl ?_
    refine SS.val (R.move rfl rfl) rfl rfl ?_
    refine SS.val (R.move rfl rfl) rfl rfl ?_
    refine SS.val (R.index rfl rfl rfl (I.ixS rfl (by omega))) rfl rfl ?_
    refine SS.val (R.field rfl rfl (I.fld rfl)) rfl rfl ?_
    refine SS.val (R.load rfl rfl (I.ld1 rfl (by assumption))) rfl rfl ?_
    refine SS.val (R.ltT rfl rfl rfl (by omega)) rfl rfl ?_
    refine SS.val (R.pick rfl rfl rfl) rfl rfl ?_
    refine SS.nilQ ?_
    refine EE.thenN ?_
    refine CC.yes rfl ?_
    refine CC.seq ?_
    refine CC.region ?_
    refine LL.val (R.assign rfl rfl) rfl rfl rfl ?_
    refine LL.nilS ?_
    refine CC.ret ?_
    refine EE.inR ?_
    refine EE.thenR ?_
    refine EE.thenR ?_
    refine EE.inR ?_
    refine EE.thenR ?_
    refine EE.ret _ rfl rfl ?_
    exact ⟨⟨true, rfl, by simp [hyes]⟩, q⟩
  have ht' : ∀ j r, j < i + 1 → rs[j]? = some r → ¬(r.1 ≤ d ∧ d - r.1 < r.2) := fun j r hj hr => by
    by_cases e : j = i
    · subst e; rw [hx] at hr; cases hr; exact h1
    · exact ht j r (by omega) hr
  by_cases h2 : x.1 ≤ d
  · have h3 : x.2 ≤ d - x.1 := by omega
    refine CC.seq ?_
    refine CC.seq ?_
    refine CC.region ?_
    refine LL.val (R.move rfl rfl) rfl rfl rfl ?_
    refine LL.val (R.move rfl rfl) rfl rfl rfl ?_
    refine LL.val (R.len rfl rfl rfl rfl) rfl rfl rfl ?_
    refine LL.val (R.ltT rfl rfl rfl (by omega)) rfl rfl rfl ?_
    refine LL.nilS ?_
    refine CC.yes rfl ?_
    refine CC.skip ?_
    refine EE.thenN ?_
    refine CC.seq ?_
    refine CC.block ?_
    refine CC.seq ?_
    refine CC.quietB (by kernel_rfl) (by kernel_rfl) (fun Wc2 bc1 zc3 => ?_)
    replace q := q.trans (bc1.mono q.size)
    replace c1 := cell_up c1 bc1
    replace c2 := cell_up c2 bc1
    refine SS.val (R.move rfl rfl) rfl rfl ?_
    refine SS.val (R.move rfl rfl) rfl rfl ?_
    refine SS.val (R.move rfl rfl) rfl rfl ?_
    refine SS.val (R.index rfl rfl rfl (I.ixS rfl (by omega))) rfl rfl ?_
    refine SS.val (R.field rfl rfl (I.fld rfl)) rfl rfl ?_
    refine SS.val (R.load rfl rfl (I.ld1 rfl (by assumption))) rfl rfl ?_
    refine SS.val (R.geT rfl rfl rfl (by omega)) rfl rfl ?_
    refine SS.val (R.move rfl rfl) rfl rfl ?_
    refine SS.val (R.move rfl rfl) rfl rfl ?_
    refine SS.val (R.move rfl rfl) rfl rfl ?_
    refine SS.val (R.move rfl rfl) rfl rfl ?_
    refine SS.val (R.index rfl rfl rfl (I.ixS rfl (by omega))) rfl rfl ?_
    refine SS.val (R.field rfl rfl (I.fld rfl)) rfl rfl ?_
    refine SS.val (R.load rfl rfl (I.ld1 rfl (by assumption))) rfl rfl ?_
    refine SS.val (R.subI rfl rfl rfl (by omega)) rfl rfl ?_
    refine SS.val (R.move rfl rfl) rfl rfl ?_
    refine SS.val (R.move rfl rfl) rfl rfl ?_
    refine SS.val (R.index rfl rfl rfl (I.ixS rfl (by omega))) rfl rfl ?_
    refine SS.val (R.field rfl rfl (I.fld rfl)) rfl rfl ?_
    refine SS.val (R.load rfl rfl (I.ld1 rfl (by assumption))) rfl rfl ?_
    refine SS.val (R.ltF rfl rfl rfl (by omega)) rfl rfl ?_
    refine SS.val (R.pick rfl rfl rfl) rfl rfl ?_
    refine SS.nilQ ?_
    refine EE.thenN ?_
    refine CC.no rfl ?_
    refine CC.skip ?_
    refine EE.inN ?_
    refine EE.thenN ?_
    refine CC.region ?_
    refine LL.val (R.move rfl rfl) rfl rfl rfl ?_
    refine LL.val (R.addNc rfl rfl rfl rfl (by omega)) rfl rfl rfl ?_
    refine LL.val (R.assign rfl rfl) rfl rfl rfl ?_
    refine LL.nil ?_
    exact EE.round (i + 1) ⟨rfl, rfl, rfl, trivial⟩ ⟨by omega, q, ht'⟩ (by omega)
  · refine CC.seq ?_
    refine CC.seq ?_
    refine CC.region ?_
    refine LL.val (R.move rfl rfl) rfl rfl rfl ?_
    refine LL.val (R.move rfl rfl) rfl rfl rfl ?_
    refine LL.val (R.len rfl rfl rfl rfl) rfl rfl rfl ?_
    refine LL.val (R.ltT rfl rfl rfl (by omega)) rfl rfl rfl ?_
    refine LL.nilS ?_
    refine CC.yes rfl ?_
    refine CC.skip ?_
    refine EE.thenN ?_
    refine CC.seq ?_
    refine CC.block ?_
    refine CC.seq ?_
    refine CC.quietB (by kernel_rfl) (by kernel_rfl) (fun Wd2 bd1 zd3 => ?_)
    replace q := q.trans (bd1.mono q.size)
    replace c1 := cell_up c1 bd1
    replace c2 := cell_up c2 bd1
    refine SS.val (R.move rfl rfl) rfl rfl ?_
    refine SS.val (R.move rfl rfl) rfl rfl ?_
    refine SS.val (R.move rfl rfl) rfl rfl ?_
    refine SS.val (R.index rfl rfl rfl (I.ixS rfl (by omega))) rfl rfl ?_
    refine SS.val (R.field rfl rfl (I.fld rfl)) rfl rfl ?_
    refine SS.val (R.load rfl rfl (I.ld1 rfl (by assumption))) rfl rfl ?_
    refine SS.val (R.geF rfl rfl rfl (by omega)) rfl rfl ?_
    refine SS.val (R.move rfl rfl) rfl rfl ?_
    refine SS.skip rfl rfl ?_
    refine SS.skip rfl rfl ?_
    refine SS.skip rfl rfl ?_
    refine SS.skip rfl rfl ?_
    refine SS.skip rfl rfl ?_
    refine SS.skip rfl rfl ?_
    refine SS.skip rfl rfl ?_
    refine SS.skip rfl rfl ?_
    refine SS.skip rfl rfl ?_
    refine SS.skip rfl rfl ?_
    refine SS.skip rfl rfl ?_
    refine SS.skip rfl rfl ?_
    refine SS.skip rfl rfl ?_
    refine SS.val (R.pick rfl rfl rfl) rfl rfl ?_
    refine SS.nilQ ?_
    refine EE.thenN ?_
    refine CC.no rfl ?_
    refine CC.skip ?_
    refine EE.inN ?_
    refine EE.thenN ?_
    refine CC.region ?_
    refine LL.val (R.move rfl rfl) rfl rfl rfl ?_
    refine LL.val (R.addNc rfl rfl rfl rfl (by omega)) rfl rfl rfl ?_
    refine LL.val (R.assign rfl rfl) rfl rfl rfl ?_
    refine LL.nil ?_
    exact EE.round (i + 1) ⟨rfl, rfl, rfl, trivial⟩ ⟨by omega, q, ht'⟩ (by omega)
theorem ok_a : okPut [] (((0 : Nat) : Int), ((5 : Nat) : Int), ((4 : Nat) : Int)) := ⟨vL_nil, by decide, by simp⟩
theorem gat_a : gat (nz (setN (plL []) 0 ((5 : Nat) : Int) 4)) = [(0, 5, 4)] := by decide +kernel
theorem run_a : gatR (dvF (plL []) 0 4) = [] := by decide +kernel
theorem vL_a : vL [(0, 5, 4)] := ⟨by simp, by simp [mayE], by simp, trivial⟩
theorem ok_b : okPut [(0, 5, 4)] (((1 : Nat) : Int), ((9 : Nat) : Int), ((2 : Nat) : Int)) := ⟨vL_a, by decide, by simp [apartE]⟩
theorem gat_b : gat (nz (setN (plL [(0, 5, 4)]) 1 ((9 : Nat) : Int) 2)) = [(0, 5, 1), (1, 9, 2), (3, 8, 1)] := by decide +kernel
theorem run_b : gatR (dvF (plL [(0, 5, 4)]) 1 2) = [(6, 2)] := by decide +kernel
theorem fnd_c : fndE [(0, 5, 4)] 3 = 8 := by
  have := fnd_at vL_a (i := 3) (by omega)
  rw [show ((plL [(0, 5, 4)])[3]?).getD 0 = 8 by decide +kernel] at this
  exact this
theorem gat_d : gat (nz (zerN (plL [(0, 5, 4)]) 1 (128 - 1))) = [(0, 5, 1)] := by decide +kernel
theorem run_d : gatR (dvF (plL [(0, 5, 4)]) 1 (128 - 1)) = [(6, 3)] := by decide +kernel
theorem vL_e : vL [(1, 2, 3)] := ⟨by simp, by simp [mayE], by simp, trivial⟩
theorem wrd_e : (wrdZ [(1, 2, 3)])[0]? = some 3298535014401 := by decide +kernel
theorem vL_g : ¬vL [(0, 5, 1), (1, 6, 1)] := fun h => h.2.2.2.1.2 ⟨rfl, rfl⟩
set_option maxRecDepth 100000 in
set_option maxHeartbeats 16000000 in
theorem works_any (w : World) (hs : Start w) : Calls Tryd.prog 9 #[] w fun x w' => x = .returned (.bool true) ∧ Below w.heap.size w w' := by
  have q := Below.refl w.heap.size w
  have hsF : ∀ W, Below w.heap.size w W → Start W := fun W hb => hs.up hb
  have hp := hs.pos
  clear hs
  refine X.fn Tryd.func9 rfl (n := 111) rfl rfl ?_
  refine CC.seq ?_
  refine CC.region ?_
  refine LL.val (R.assign rfl rfl) rfl rfl rfl ?_
  refine LL.nilS ?_
  refine CC.seq ?_
  refine CC.region ?_
  refine LL.val (R.buildV rfl rfl (v := .agg #[Value.int IntKind.i64 0, Value.int IntKind.i64 5, Value.int IntKind.i64 4]) (fun _ => by kernel_rfl)) rfl rfl rfl ?_
  have hA := put_T (.slice none 0 0) w (ReadsT.nil w) ok_a (by rw [gat_a]; simp)
  rw [gat_a, run_a] at hA
  refine LL.call (R.call rfl rfl rfl) rfl rfl rfl hA ?_
  rintro e W1 ⟨v1, u1, rfl, h1, g1, b1⟩
  refine ⟨_, rfl, ?_⟩
  replace q := q.trans (b1.mono q.size)
  have y1 := b1.size
  obtain ⟨ua, uc, rfl, huc⟩ := g1.form (n := 0) rfl
  clear hA b1 g1
  refine LL.val (R.move rfl rfl) rfl rfl rfl ?_
  refine LL.val (R.extract rfl rfl rfl) rfl rfl rfl ?_
  refine LL.val (R.extract rfl rfl rfl) rfl rfl rfl ?_
  refine LL.val (R.extract rfl rfl rfl) rfl rfl rfl ?_
  refine LL.val (R.assign rfl rfl) rfl rfl rfl ?_
  refine LL.val (R.assign rfl rfl) rfl rfl rfl ?_
  refine LL.val (R.assign rfl rfl) rfl rfl rfl ?_
  refine LL.nilS ?_
  refine CC.seq ?_
  refine CC.region ?_
  refine LL.val (R.move rfl rfl) rfl rfl rfl ?_
  refine LL.val (R.buildV rfl rfl (v := .agg #[Value.int IntKind.i64 1, Value.int IntKind.i64 9, Value.int IntKind.i64 2]) (fun _ => by kernel_rfl)) rfl rfl rfl ?_
  have hB := put_T v1 W1 h1 ok_b (by rw [gat_b]; simp)
  rw [gat_b, run_b] at hB
  refine LL.call (R.call rfl rfl rfl) rfl rfl rfl hB ?_
  rintro e W2 ⟨v2, u2, rfl, h2, g2, b2⟩
  refine ⟨_, rfl, ?_⟩
  replace q := q.trans (b2.mono q.size)
  replace h1 := h1.up b2
  have y2 := b2.size
  clear hB b2
  refine LL.val (R.move rfl rfl) rfl rfl rfl ?_
  refine LL.val (R.extract rfl rfl rfl) rfl rfl rfl ?_
  refine LL.val (R.extract rfl rfl rfl) rfl rfl rfl ?_
  refine LL.val (R.extract rfl rfl rfl) rfl rfl rfl ?_
  refine LL.val (R.assign rfl rfl) rfl rfl rfl ?_
  refine LL.val (R.assign rfl rfl) rfl rfl rfl ?_
  refine LL.val (R.assign rfl rfl) rfl rfl rfl ?_
  refine LL.nilS ?_
  refine CC.seq ?_
  refine CC.region ?_
  refine LL.val (R.move rfl rfl) rfl rfl rfl ?_
  have hC := find_any [(0, 5, 4)] 3 v1 W2 h1 (by simp)
  rw [fnd_c] at hC
  refine LL.call (R.call rfl rfl rfl) rfl rfl rfl hC ?_
  rintro e W3 ⟨rfl, b3⟩
  refine ⟨_, rfl, ?_⟩
  replace q := q.trans (b3.mono q.size)
  replace h1 := h1.up b3
  replace h2 := h2.up b3
  replace g2 := g2.up b3
  have y3 := b3.size
  clear hC b3
  refine LL.val (R.move rfl rfl) rfl rfl rfl ?_
  refine LL.val (R.extract rfl rfl rfl) rfl rfl rfl ?_
  refine LL.val (R.extract rfl rfl rfl) rfl rfl rfl ?_
  refine LL.val (R.assign rfl rfl) rfl rfl rfl ?_
  refine LL.val (R.assign rfl rfl) rfl rfl rfl ?_
  refine LL.nilS ?_
  refine CC.seq ?_
  refine CC.region ?_
  refine LL.val (R.move rfl rfl) rfl rfl rfl ?_
  have hD := cut_any [(0, 5, 4)] 1 v1 W3 h1 vL_a (by omega)
  rw [gat_d, run_d] at hD
  refine LL.call (R.call rfl rfl rfl) rfl rfl rfl hD ?_
  rintro e W4 ⟨⟨v4, u4, rfl, h4, g4⟩, b4⟩
  refine ⟨_, rfl, ?_⟩
  replace q := q.trans (b4.mono q.size)
  replace h1 := h1.up b4
  replace h2 := h2.up b4
  replace g2 := g2.up b4
  have y4 := b4.size
  clear hD b4
  have q4 := Below.refl W4.heap.size W4
  have h1F : ∀ W, Below W4.heap.size W4 W → ReadsT eE 3 W v1 _ := fun W hb => h1.up hb
  have h2F : ∀ W, Below W4.heap.size W4 W → ReadsT eE 3 W v2 _ := fun W hb => h2.up hb
  have h4F : ∀ W, Below W4.heap.size W4 W → ReadsT eE 3 W v4 _ := fun W hb => h4.up hb
  have g2F : ∀ W, Below W4.heap.size W4 W → ReadsT rE 2 W u2 _ := fun W hb => g2.up hb
  have g4F : ∀ W, Below W4.heap.size W4 W → ReadsT rE 2 W u4 _ := fun W hb => g4.up hb
  clear h1 h2 h4 g2 g4
  refine LL.val (R.move rfl rfl) rfl rfl rfl ?_
  refine LL.val (R.extract rfl rfl rfl) rfl rfl rfl ?_
  refine LL.val (R.extract rfl rfl rfl) rfl rfl rfl ?_
  refine LL.val (R.extract rfl rfl rfl) rfl rfl rfl ?_
  refine LL.val (R.assign rfl rfl) rfl rfl rfl ?_
  refine LL.val (R.assign rfl rfl) rfl rfl rfl ?_
  refine LL.val (R.assign rfl rfl) rfl rfl rfl ?_
  refine LL.nilS ?_
  refine CC.seq ?_
  refine CC.region ?_
  refine LL.val (R.buildV rfl rfl (v := .agg #[Value.int IntKind.i64 1, Value.int IntKind.i64 2, Value.int IntKind.i64 3]) (fun _ => by kernel_rfl)) rfl rfl rfl ?_
  refine LL.lit (e := 41) [Value.int IntKind.i64 1, Value.int IntKind.i64 2, Value.int IntKind.i64 3] 1 rfl rfl (fun _ => by kernel_rfl) rfl rfl ?_
  intro Wd2 gd3 egd3 rd4 zd5 bd1
  replace q := q.trans (bd1.mono q.size)
  replace q4 := q4.trans (bd1.mono q4.size)
  refine LL.call (R.call rfl rfl rfl) rfl rfl rfl (words_T [(1, 2, 3)] _ _ (hsF _ q) (RowL.readsT (ts := [(1, 2, 3)]) eEnc (by assumption) 1 (by simp)) vL_e) ?_
  rintro e W5 ⟨rfl, b5⟩
  refine ⟨_, rfl, ?_⟩
  replace q := q.trans (b5.mono q.size)
  replace q4 := q4.trans (b5.mono q4.size)
  have y5 := b5.size
  have hwl : (wrdZ [(1, 2, 3)]).length = 10 := by decide
  clear b5
  refine LL.val (R.move rfl rfl) rfl rfl rfl ?_
  refine LL.val (R.extract rfl rfl rfl) rfl rfl rfl ?_
  refine LL.val (R.extract rfl rfl rfl) rfl rfl rfl ?_
  refine LL.alloc (intsZ .u64 (List.replicate 10 0)) rfl rfl rfl rfl rfl ?_
  intro We2 ge3 ege3 re4 ze5 be1
  replace q := q.trans (be1.mono q.size)
  replace q4 := q4.trans (be1.mono q4.size)
  refine LL.storeAZ rfl rfl rfl rfl (by first | assumption | exact List.length_replicate | exact plL_len _ | exact plOf_len _ | simp) re4 (by first | (rw [List.length_map]; exact (by first | assumption | exact List.length_replicate | exact plL_len _ | exact plOf_len _ | simp)) | simp) rfl rfl ?_
  intro We7 re8 be6 ze9
  have hlbe6 := re4.lt
  replace re8 : RowL We7 _ 53 [(fun z => Value.int IntKind.u64 z) (pkZ (1, 2, 3)), (fun z => Value.int IntKind.u64 z) 0, (fun z => Value.int IntKind.u64 z) 0, (fun z => Value.int IntKind.u64 z) 0, (fun z => Value.int IntKind.u64 z) 0, (fun z => Value.int IntKind.u64 z) 0, (fun z => Value.int IntKind.u64 z) 0, (fun z => Value.int IntKind.u64 z) 0, (fun z => Value.int IntKind.u64 z) 0, (fun z => Value.int IntKind.u64 z) 0] := re8
  clear re4
  replace be1 := be1.grown be6 be1.size (by rintro k ⟨⟩; omega)
  replace q := q.grown be6 q.size (by rintro k ⟨⟩; omega)
  replace q4 := q4.grown be6 q4.size (by rintro k ⟨⟩; omega)
  have re4 := re8
  clear re8
  refine LL.val (R.assign rfl rfl) rfl rfl rfl ?_
  refine LL.nilS ?_
  refine CC.seq ?_
  refine CC.seq ?_
  refine CC.region ?_
  refine LL.val (R.move rfl rfl) rfl rfl rfl ?_
  refine LL.call (R.call rfl rfl rfl) rfl rfl rfl (num_any _ _) ?_
  rintro e W' ⟨rfl, rfl⟩
  refine ⟨_, rfl, ?_⟩
  refine LL.val (R.move rfl rfl) rfl rfl rfl ?_
  refine LL.call (R.call rfl rfl rfl) rfl rfl rfl (num_any _ _) ?_
  rintro e W' ⟨rfl, rfl⟩
  refine ⟨_, rfl, ?_⟩
  refine LL.val (R.addIz (z := 0) rfl rfl rfl (by decide) (by decide)) rfl rfl rfl ?_
  refine LL.val (R.move rfl rfl) rfl rfl rfl ?_
  refine LL.call (R.call rfl rfl rfl) rfl rfl rfl (num_any _ _) ?_
  rintro e W' ⟨rfl, rfl⟩
  refine ⟨_, rfl, ?_⟩
  refine LL.val (R.addIz (z := 0) rfl rfl rfl (by decide) (by decide)) rfl rfl rfl ?_
  refine LL.val (R.move rfl rfl) rfl rfl rfl ?_
  refine LL.call (R.call rfl rfl rfl) rfl rfl rfl (num_any _ _) ?_
  rintro e W' ⟨rfl, rfl⟩
  refine ⟨_, rfl, ?_⟩
  refine LL.val (R.addIz (z := 0) rfl rfl rfl (by decide) (by decide)) rfl rfl rfl ?_
  refine LL.val (R.neF rfl rfl rfl (by omega)) rfl rfl rfl ?_
  refine LL.val (R.move rfl rfl) rfl rfl rfl ?_
  refine LL.val (R.move rfl rfl) rfl rfl rfl ?_
  refine LL.val (R.len rfl rfl rfl rfl) rfl rfl rfl ?_
  refine LL.val (R.neF rfl rfl rfl (by omega)) rfl rfl rfl ?_
  refine LL.val (R.pick rfl rfl rfl) rfl rfl rfl ?_
  refine LL.val (R.move rfl rfl) rfl rfl rfl ?_
  refine LL.val (R.buildV rfl rfl (v := .agg #[Value.int IntKind.i64 0, Value.int IntKind.i64 5, Value.int IntKind.i64 1]) (fun _ => by kernel_rfl)) rfl rfl rfl ?_
  refine LL.val (R.buildV rfl rfl (v := .agg #[Value.int IntKind.i64 1, Value.int IntKind.i64 6, Value.int IntKind.i64 1]) (fun _ => by kernel_rfl)) rfl rfl rfl ?_
  have le10 := re4.lt
  refine LL.lit (e := 41) [Value.int IntKind.i64 0, Value.int IntKind.i64 5, Value.int IntKind.i64 1, Value.int IntKind.i64 1, Value.int IntKind.i64 6, Value.int IntKind.i64 1] 2 rfl rfl (fun _ => by kernel_rfl) rfl rfl ?_
  intro We12 ge13 ege13 re14 ze15 be11
  replace be1 := be1.trans (be11.mono be1.size)
  replace q := q.trans (be11.mono q.size)
  replace q4 := q4.trans (be11.mono q4.size)
  replace re4 := re4.up be11
  have rW : RowL We12 ge3 53 [.int .u64 3298535014401, .int .u64 0, .int .u64 0, .int .u64 0, .int .u64 0, .int .u64 0, .int .u64 0, .int .u64 0, .int .u64 0, .int .u64 0] := re4
  clear re4
  refine LL.call (R.call rfl rfl rfl) rfl rfl rfl (check_F (.slice (some ⟨ge13, 0, none⟩) 2 2) [(0, 5, 1), (1, 6, 1)] _ (RowL.readsT (ts := [(0, 5, 1), (1, 6, 1)]) eEnc re14 2 (by simp)) (by simp) vL_g) ?_
  rintro e W6 ⟨rfl, b6⟩
  refine ⟨_, rfl, ?_⟩
  replace q := q.trans (b6.mono q.size)
  replace q4 := q4.trans (b6.mono q4.size)
  replace rW := rW.up b6
  have y6 := b6.size
  clear b6 re14
  refine LL.call (R.call rfl rfl rfl) rfl rfl rfl (num_any _ _) ?_
  rintro e W' ⟨rfl, rfl⟩
  refine ⟨_, rfl, ?_⟩
  refine LL.val (R.neF rfl rfl rfl (by omega)) rfl rfl rfl ?_
  refine LL.val (R.pick rfl rfl rfl) rfl rfl rfl ?_
  refine LL.nilS ?_
  refine CC.no rfl ?_
  refine CC.skip ?_
  refine EE.thenN ?_
  refine CC.seq ?_
  refine CC.region ?_
  refine LL.val (R.move rfl rfl) rfl rfl rfl ?_
  refine LL.val (R.buildV rfl rfl (v := .agg #[Value.int IntKind.i64 0, Value.int IntKind.i64 5, Value.int IntKind.i64 4]) (fun _ => by kernel_rfl)) rfl rfl rfl ?_
  have lf1 := rW.lt
  refine LL.lit (e := 41) [Value.int IntKind.i64 0, Value.int IntKind.i64 5, Value.int IntKind.i64 4] 1 rfl rfl (fun _ => by kernel_rfl) rfl rfl ?_
  intro Wf3 gf4 egf4 rf5 zf6 bf2
  replace q := q.trans (bf2.mono q.size)
  replace q4 := q4.trans (bf2.mono q4.size)
  replace rW := rW.up bf2
  refine LL.callBT (R.call rfl rfl rfl) rfl rfl rfl (slist_any _ _ _ [(0, 5, 4)] _ (h1F _ q4) (RowL.readsT (ts := [(0, 5, 4)]) eEnc (by assumption) 1 (by simp)) (by simp) (by simp)) rfl (fun W7 b7 => ?_)
  replace q := q.trans (b7.mono q.size)
  replace q4 := q4.trans (b7.mono q4.size)
  replace rW := rW.up b7
  have y7 := b7.size
  clear b7
  refine LL.val (R.move rfl rfl) rfl rfl rfl ?_
  refine LL.val (R.move rfl rfl) rfl rfl rfl ?_
  refine LL.val (R.buildV rfl rfl (v := .agg #[Value.int IntKind.i64 0, Value.int IntKind.i64 5, Value.int IntKind.i64 1]) (fun _ => by kernel_rfl)) rfl rfl rfl ?_
  refine LL.val (R.buildV rfl rfl (v := .agg #[Value.int IntKind.i64 1, Value.int IntKind.i64 9, Value.int IntKind.i64 2]) (fun _ => by kernel_rfl)) rfl rfl rfl ?_
  refine LL.val (R.buildV rfl rfl (v := .agg #[Value.int IntKind.i64 3, Value.int IntKind.i64 8, Value.int IntKind.i64 1]) (fun _ => by kernel_rfl)) rfl rfl rfl ?_
  have lg1 := rW.lt
  refine LL.lit (e := 41) [Value.int IntKind.i64 0, Value.int IntKind.i64 5, Value.int IntKind.i64 1, Value.int IntKind.i64 1, Value.int IntKind.i64 9, Value.int IntKind.i64 2, Value.int IntKind.i64 3, Value.int IntKind.i64 8, Value.int IntKind.i64 1] 3 rfl rfl (fun _ => by kernel_rfl) rfl rfl ?_
  intro Wg3 gg4 egg4 rg5 zg6 bg2
  replace q := q.trans (bg2.mono q.size)
  replace q4 := q4.trans (bg2.mono q4.size)
  replace rW := rW.up bg2
  refine LL.callBT (R.call rfl rfl rfl) rfl rfl rfl (slist_any _ _ _ [(0, 5, 1), (1, 9, 2), (3, 8, 1)] _ (h2F _ q4) (RowL.readsT (ts := [(0, 5, 1), (1, 9, 2), (3, 8, 1)]) eEnc (by assumption) 3 (by simp)) (by simp) (by simp)) rfl (fun W8 b8 => ?_)
  replace q := q.trans (b8.mono q.size)
  replace q4 := q4.trans (b8.mono q4.size)
  replace rW := rW.up b8
  have y8 := b8.size
  clear b8
  refine LL.val (R.pick rfl rfl rfl) rfl rfl rfl ?_
  refine LL.val (R.move rfl rfl) rfl rfl rfl ?_
  refine LL.val (R.move rfl rfl) rfl rfl rfl ?_
  refine LL.val (R.buildV rfl rfl (v := .agg #[Value.int IntKind.i64 6, Value.int IntKind.i64 2]) (fun _ => by kernel_rfl)) rfl rfl rfl ?_
  have lh1 := rW.lt
  refine LL.lit (e := 64) [Value.int IntKind.i64 6, Value.int IntKind.i64 2] 1 rfl rfl (fun _ => by kernel_rfl) rfl rfl ?_
  intro Wh3 gh4 egh4 rh5 zh6 bh2
  replace q := q.trans (bh2.mono q.size)
  replace q4 := q4.trans (bh2.mono q4.size)
  replace rW := rW.up bh2
  refine LL.callBT (R.call rfl rfl rfl) rfl rfl rfl (sruns_any _ _ _ [(6, 2)] _ (g2F _ q4) (RowL.readsT (ts := [(6, 2)]) rEnc (by assumption) 1 (by simp)) (by simp) (by simp)) rfl (fun W9 b9 => ?_)
  replace q := q.trans (b9.mono q.size)
  replace q4 := q4.trans (b9.mono q4.size)
  replace rW := rW.up b9
  have y9 := b9.size
  clear b9
  refine LL.val (R.pick rfl rfl rfl) rfl rfl rfl ?_
  refine LL.val (R.move rfl rfl) rfl rfl rfl ?_
  refine LL.val (R.move rfl rfl) rfl rfl rfl ?_
  refine LL.val (R.eqT rfl rfl rfl (by omega)) rfl rfl rfl ?_
  refine LL.val (R.pick rfl rfl rfl) rfl rfl rfl ?_
  refine LL.val (R.move rfl rfl) rfl rfl rfl ?_
  refine LL.val (R.move rfl rfl) rfl rfl rfl ?_
  refine LL.val (R.pick rfl rfl rfl) rfl rfl rfl ?_
  refine LL.val (R.move rfl rfl) rfl rfl rfl ?_
  refine LL.val (R.move rfl rfl) rfl rfl rfl ?_
  refine LL.val (R.buildV rfl rfl (v := .agg #[Value.int IntKind.i64 0, Value.int IntKind.i64 5, Value.int IntKind.i64 1]) (fun _ => by kernel_rfl)) rfl rfl rfl ?_
  have li1 := rW.lt
  refine LL.lit (e := 41) [Value.int IntKind.i64 0, Value.int IntKind.i64 5, Value.int IntKind.i64 1] 1 rfl rfl (fun _ => by kernel_rfl) rfl rfl ?_
  intro Wi3 gi4 egi4 ri5 zi6 bi2
  replace q := q.trans (bi2.mono q.size)
  replace q4 := q4.trans (bi2.mono q4.size)
  replace rW := rW.up bi2
  refine LL.callBT (R.call rfl rfl rfl) rfl rfl rfl (slist_any _ _ _ [(0, 5, 1)] _ (h4F _ q4) (RowL.readsT (ts := [(0, 5, 1)]) eEnc (by assumption) 1 (by simp)) (by simp) (by simp)) rfl (fun W10 b10 => ?_)
  replace q := q.trans (b10.mono q.size)
  replace q4 := q4.trans (b10.mono q4.size)
  replace rW := rW.up b10
  have y10 := b10.size
  clear b10
  refine LL.val (R.pick rfl rfl rfl) rfl rfl rfl ?_
  refine LL.val (R.move rfl rfl) rfl rfl rfl ?_
  refine LL.val (R.move rfl rfl) rfl rfl rfl ?_
  refine LL.val (R.buildV rfl rfl (v := .agg #[Value.int IntKind.i64 6, Value.int IntKind.i64 3]) (fun _ => by kernel_rfl)) rfl rfl rfl ?_
  have lj1 := rW.lt
  refine LL.lit (e := 64) [Value.int IntKind.i64 6, Value.int IntKind.i64 3] 1 rfl rfl (fun _ => by kernel_rfl) rfl rfl ?_
  intro Wj3 gj4 egj4 rj5 zj6 bj2
  replace q := q.trans (bj2.mono q.size)
  replace q4 := q4.trans (bj2.mono q4.size)
  replace rW := rW.up bj2
  refine LL.callBT (R.call rfl rfl rfl) rfl rfl rfl (sruns_any _ _ _ [(6, 3)] _ (g4F _ q4) (RowL.readsT (ts := [(6, 3)]) rEnc (by assumption) 1 (by simp)) (by simp) (by simp)) rfl (fun W11 b11 => ?_)
  replace q := q.trans (b11.mono q.size)
  replace q4 := q4.trans (b11.mono q4.size)
  replace rW := rW.up b11
  have y11 := b11.size
  clear b11
  refine LL.val (R.pick rfl rfl rfl) rfl rfl rfl ?_
  refine LL.val (R.move rfl rfl) rfl rfl rfl ?_
  refine LL.val (R.index rfl rfl rfl (I.ixA1c rfl rfl (by first | omega | decide))) rfl rfl rfl ?_
  refine LL.val (R.load rfl rfl (I.ld1 rfl (RowL.cell rW rfl))) rfl rfl rfl ?_
  refine LL.val (R.eqT rfl rfl rfl (by omega)) rfl rfl rfl ?_
  refine LL.val (R.pick rfl rfl rfl) rfl rfl rfl ?_
  refine LL.val (R.assign rfl rfl) rfl rfl rfl ?_
  refine LL.nilS ?_
  refine CC.ret ?_
  refine EE.ret _ rfl rfl ?_
  exact ⟨rfl, q⟩
end Go.Proofs.YtklfopclaonggaaDoor
