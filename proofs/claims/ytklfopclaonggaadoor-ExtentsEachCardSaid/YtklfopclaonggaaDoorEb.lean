/- extents: the blocks of a map, one by one. extents: the places of a map. -/
import Derived.Test.YtklfopclaonggaaDoorEa
import Derived.Test.YtklfopclaonggaaDoorRange
import Derived.Test.YtklfopclaonggaaDoorArr
namespace Go.Proofs.YtklfopclaonggaaDoor
set_option linter.unusedVariables false
set_option linter.unusedSimpArgs false
open Go.RowKit Go.Shelf
theorem blS_pre {l : List Ex} {i : Nat} {x : Ex} (hx : l[i]? = some x) (k : Nat) : blS (l.take i) ++ (blE x).take k <+: blS l := by
  have e : l = l.take i ++ x :: l.drop (i + 1) := by
    obtain ⟨hi, rfl⟩ := List.getElem?_eq_some_iff.1 hx
    simp
  conv => rhs; rw [e, blS_app, blS_cons]
  exact (List.prefix_append_right_inj _).2 ((List.take_prefix _ _).trans (List.prefix_append _ _))
theorem blS_take {l : List Ex} {i : Nat} {x : Ex} (hx : l[i]? = some x) : blS (l.take (i + 1)) = blS (l.take i) ++ blE x := by
  rw [List.take_add_one, hx, blS_app]
  simp [blS_one]
set_option maxRecDepth 100000 in
theorem blocks_any (a : Option Addr) (n cap : Nat) (w : World) : Calls Tryd.prog 35 #[.slice a n cap] w fun e w' => ∃ bk, e = .returned (.func (.func 45) #[] #[.pointer (some ⟨bk, 0, none⟩)]) ∧ RowL w' bk 22 [.slice a n cap] ∧ w.heap.size ≤ bk ∧ Below w.heap.size w w' := by
  have q := Below.refl w.heap.size w
  refine X.fn Tryd.func35 rfl (n := 4) rfl rfl ?_
  refine CC.seq ?_
  refine CC.region ?_
  refine LL.box [Value.slice a n cap] rfl rfl rfl rfl rfl ?_
  intro W2 g3 eg3 r4 z5 b1
  replace q := q.trans (b1.mono q.size)
  refine LL.val (R.assign rfl rfl) rfl rfl rfl ?_
  refine LL.nilS ?_
  refine CC.seq ?_
  refine CC.region ?_
  refine LL.val (R.func rfl rfl rfl) rfl rfl rfl ?_
  refine LL.val (R.assign rfl rfl) rfl rfl rfl ?_
  refine LL.nilS ?_
  refine CC.ret ?_
  refine EE.ret _ rfl rfl ?_
  exact ⟨_, rfl, by assumption, by omega, q⟩
set_option maxRecDepth 100000 in
set_option maxHeartbeats 8000000 in
theorem blocks_gives (l : List Ex) (hl : ∀ x ∈ l, mayE x) (a : Option Addr) (N cap bk bkl : Nat) (w : World) (hN : l.length = N) (hN2 : N ≤ 1048576) (hc : RowL w bk 22 [.slice a N cap]) (hv : ReadsT eE 3 w (.slice a N cap) l) (hbl : ∀ b off, a = some ⟨b, off, none⟩ → 0 < N → b = bkl) :
    GivesZ Tryd.prog 45 [Value.pointer (some ⟨bk, 0, none⟩)].toArray (fun x => (rE x).toArray) (fun k => k = bkl) (fun xs => xs = blS l) w := by
  intro lp J Jx W hW hJ hJx hY h0
  have rc := hc.up hW
  have hvW := hv.up hW
  clear hc hv
  have q := Below.refl W.heap.size W
  rw [show (#[.func (.yield lp) #[] #[]] ++ [Value.pointer (some ⟨bk, 0, none⟩)].toArray : Array Value) = #[.func (.yield lp) #[] #[], .pointer (some ⟨bk, 0, none⟩)] from rfl]
  refine X.fn Tryd.func45 rfl (n := 30) rfl rfl ?_
  refine CC.seq ?_
  refine CC.region ?_
  refine LL.val (R.load rfl rfl (I.ld1 rfl (RowL.cell rc rfl))) rfl rfl rfl ?_
  refine LL.val (R.len rfl rfl rfl rfl) rfl rfl rfl ?_
  refine LL.val (R.move rfl rfl) rfl rfl rfl ?_
  refine LL.nilS ?_
  refine CC.block ?_
  refine CC.loop (α := Nat × (Nat → Prop)) (fun s => [(0, .func (.yield lp) #[] #[]), (6, .slice a N cap), (7, .int .i64 (N : Int)), (8, .int .i64 (s.1 : Int))])
    (fun s wr => s.1 ≤ N ∧ W.heap.size ≤ wr.heap.size ∧ J s.2 (blS (l.take s.1)) wr ∧ (∀ k, s.2 k → W.heap.size ≤ k ∧ k < wr.heap.size) ∧ ReadsT eE 3 wr (.slice a N cap) l) (fun s => N - s.1)
    (0, fun _ => False) ⟨rfl, rfl, rfl, rfl, trivial⟩ ⟨by show 0 ≤ N; omega, Nat.le_refl _, h0, fun k hk => hk.elim, hvW⟩ ?_
  clear rc q hW h0
  have hvW0 := hvW
  clear hvW
  rintro ⟨i, m⟩ wr ⟨hi, hz, hJi, hm, hv⟩
  simp only at hi hJi hm
  show CC none Tryd.prog _ 30 [] (sl [(0, .func (.yield lp) #[] #[]), (6, .slice a N cap), (7, .int .i64 (N : Int)), (8, .int .i64 (i : Int))]) _ wr
  by_cases hlt : i < N
  case neg =>
    obtain rfl : i = N := by omega
    rw [← hN, List.take_length] at hJi
    refine CC.seq ?_
    refine CC.region ?_
    refine LL.val (R.ltF rfl rfl rfl (by omega)) rfl rfl rfl ?_
    refine LL.nilS ?_
    refine CC.seq ?_
    refine CC.no rfl ?_
    refine CC.exit ?_
    refine EE.thenX ?_
    refine EE.thenX ?_
    refine EE.inX ?_
    refine EE.end _ rfl rfl ?_
    exact ⟨⟨_, rfl⟩, .inl ⟨_, _, rfl, hJi⟩⟩
  obtain ⟨x, hx⟩ : ∃ x, l[i]? = some x := ⟨_, List.getElem?_eq_getElem (by omega)⟩
  have hmx := hl x (List.mem_of_getElem? hx)
  obtain ⟨bl, off, rfl, hbk, hcs⟩ := hv.get eEnc hx
  obtain rfl := hbl bl off rfl (by omega)
  have hcs : Cells wr ⟨bl, off + i * 3, none⟩ [.int .i64 x.1, .int .i64 x.2.1, .int .i64 x.2.2] := hcs
  obtain ⟨n, hn⟩ : ∃ n : Nat, x.2.2 = (n : Int) := ⟨x.2.2.toNat, by have := hmx.2.2.1; omega⟩
  unfold mayE at hmx
  rw [hn] at hcs hmx
  have qn := Below.refl wr.heap.size wr
  refine CC.seq ?_
  refine CC.region ?_
  refine LL.val (R.ltT rfl rfl rfl (by omega)) rfl rfl rfl ?_
  refine LL.nilS ?_
  refine CC.seq ?_
  refine CC.yes rfl ?_
  refine CC.skip ?_
  refine EE.thenN ?_
  refine CC.seq ?_
  refine CC.block ?_
  refine CC.seq ?_
  refine CC.region ?_
  refine LL.val (R.index rfl rfl rfl (I.ixS rfl (by omega))) rfl rfl rfl ?_
  refine LL.val (R.load rfl rfl (I.ldNc (by assumption) rfl rfl)) rfl rfl rfl ?_
  refine LL.alloc ([Value.int IntKind.i64 0, Value.int IntKind.i64 0, Value.int IntKind.i64 0]) rfl rfl rfl rfl rfl ?_
  intro Wb2 gb3 egb3 rb4 zb5 bb1
  replace hv := hv.up bb1
  replace hcs := hcs.up bb1
  replace qn := qn.trans (bb1.mono qn.size)
  refine LL.storeN (vs := [Value.int IntKind.i64 x.1, Value.int IntKind.i64 x.2.1, Value.int IntKind.i64 ↑n]) rfl rfl rfl rfl rb4 (by exact Nat.le_of_ble_eq_true rfl) (ones_of rfl) rfl rfl ?_
  intro Wb7 rb8 bb6 zb9
  have hlbb6 := rb4.lt
  replace rb8 : RowL Wb7 _ 41 [Value.int IntKind.i64 x.1, Value.int IntKind.i64 x.2.1, Value.int IntKind.i64 ↑n] := rb8
  clear rb4
  replace bb1 := bb1.grown bb6 bb1.size (by rintro k ⟨⟩; omega)
  replace hv := hv.gr bb6 (by omega)
  replace hcs := hcs.gr bb6 (by omega)
  replace qn := qn.grown bb6 qn.size (by rintro k ⟨⟩; omega)
  have rb4 := rb8
  clear rb8
  refine LL.nilS ?_
  refine CC.seq ?_
  refine CC.region ?_
  refine LL.val (R.field rfl rfl (I.fld rfl)) rfl rfl rfl ?_
  refine LL.val (R.load rfl rfl (I.ld1 rfl (RowL.cell rb4 rfl))) rfl rfl rfl ?_
  refine LL.val (R.move rfl rfl) rfl rfl rfl ?_
  refine LL.nilS ?_
  refine CC.block ?_
  have hJb : J (fun k => m k ∨ k = gb3) (blS (l.take i) ++ (blE x).take 0) Wb7 := by
    rw [List.take_zero, List.append_nil]
    exact hJ _ _ _ _ _ hJi (.of_below qn) (fun k hk => hk.imp_right fun e => by omega)
  have hmb : ∀ k, (m k ∨ k = gb3) → W.heap.size ≤ k ∧ k < Wb7.heap.size := fun k hk => by
    rcases hk with hk | rfl
    · have := hm k hk; omega
    · omega
  have hxn : (blE x).length = n := by rw [blE_len]; omega
  refine CC.loop (α := Nat × (Nat → Prop)) (fun s => [(0, .func (.yield lp) #[] #[]), (4, .pointer (some ⟨gb3, 0, none⟩)), (6, .slice (some ⟨bl, off, none⟩) N cap), (7, .int .i64 (N : Int)), (8, .int .i64 (i : Int)), (13, .int .i64 (n : Int)), (14, .int .i64 (s.1 : Int))])
    (fun s wr => s.1 ≤ n ∧ W.heap.size ≤ wr.heap.size ∧ J s.2 (blS (l.take i) ++ (blE x).take s.1) wr ∧ (∀ k, s.2 k → W.heap.size ≤ k ∧ k < wr.heap.size) ∧ s.2 gb3 ∧ RowL wr gb3 41 [.int .i64 x.1, .int .i64 x.2.1, .int .i64 (n : Int)] ∧ ReadsT eE 3 wr (.slice (some ⟨bl, off, none⟩) N cap) l) (fun s => n - s.1)
    (0, fun k => m k ∨ k = gb3) ⟨rfl, rfl, rfl, rfl, rfl, rfl, rfl, trivial⟩ ⟨by show 0 ≤ n; omega, by omega, hJb, hmb, .inr rfl, rb4, hv⟩ ?_
  clear hJb hmb rb4 hv hcs qn bb1 bb6 hJi hm
  rintro ⟨j, m'⟩ wr' ⟨hj, hz', hJn, hm, hm4, rb4, hv⟩
  simp only at hj hJn hm hm4
  show CC none Tryd.prog _ 30 [] (sl [(0, .func (.yield lp) #[] #[]), (4, .pointer (some ⟨gb3, 0, none⟩)), (6, .slice (some ⟨bl, off, none⟩) N cap), (7, .int .i64 (N : Int)), (8, .int .i64 (i : Int)), (13, .int .i64 (n : Int)), (14, .int .i64 (j : Int))]) _ wr'
  by_cases hjl : j < n
  case neg =>
    obtain rfl : j = n := by omega
    rw [show (blE x).take j = blE x from List.take_of_length_le (by omega), ← blS_take hx] at hJn
    refine CC.seq ?_
    refine CC.region ?_
    refine LL.val (R.ltF rfl rfl rfl (by omega)) rfl rfl rfl ?_
    refine LL.nilS ?_
    refine CC.seq ?_
    refine CC.no rfl ?_
    refine CC.exit ?_
    refine EE.thenX ?_
    refine EE.thenX ?_
    refine EE.inX ?_
    refine EE.inN ?_
    refine EE.thenN ?_
    refine CC.region ?_
    refine LL.val (R.addNc rfl rfl rfl rfl (by omega)) rfl rfl rfl ?_
    refine LL.val (R.move rfl rfl) rfl rfl rfl ?_
    refine LL.nil ?_
    exact EE.round (i + 1, m') ⟨rfl, rfl, rfl, rfl, trivial⟩ ⟨by show i + 1 ≤ N; omega, hz', hJn, hm, hv⟩ (by show N - (i + 1) < N - i; omega)
  have hst : (blE x).take (j + 1) = (blE x).take j ++ [(x.1 + (j : Int), x.2.1 + (j : Int))] := blE_take (by omega)
  have hpart : Part (fun xs => xs = blS l) (blS (l.take i) ++ (blE x).take j ++ [(x.1 + (j : Int), x.2.1 + (j : Int))]) := by
    refine ⟨_, rfl, ?_⟩
    rw [List.append_assoc, ← hst]
    exact blS_pre hx (j + 1)
  refine CC.seq ?_
  refine CC.region ?_
  refine LL.val (R.ltT rfl rfl rfl (by omega)) rfl rfl rfl ?_
  refine LL.nilS ?_
  refine CC.seq ?_
  refine CC.yes rfl ?_
  refine CC.skip ?_
  refine EE.thenN ?_
  refine CC.seq ?_
  refine CC.block ?_
  refine CC.seq ?_
  refine CC.region ?_
  refine LL.val (R.move rfl rfl) rfl rfl rfl ?_
  refine LL.val (R.assign rfl rfl) rfl rfl rfl ?_
  refine LL.nilS ?_
  refine CC.seq ?_
  refine CC.region ?_
  refine LL.val (R.move rfl rfl) rfl rfl rfl ?_
  refine LL.val (R.field rfl rfl (I.fld rfl)) rfl rfl rfl ?_
  refine LL.val (R.load rfl rfl (I.ld1 rfl (RowL.cell rb4 rfl))) rfl rfl rfl ?_
  refine LL.val (R.move rfl rfl) rfl rfl rfl ?_
  refine LL.val (R.addI rfl rfl rfl (by omega)) rfl rfl rfl ?_
  refine LL.val (R.field rfl rfl (I.fld rfl)) rfl rfl rfl ?_
  refine LL.val (R.load rfl rfl (I.ld1 rfl (RowL.cell rb4 rfl))) rfl rfl rfl ?_
  refine LL.val (R.move rfl rfl) rfl rfl rfl ?_
  refine LL.val (R.addI rfl rfl rfl (by omega)) rfl rfl rfl ?_
  refine LL.yield (vs := rE (x.1 + (j : Int), x.2.1 + (j : Int))) rfl rfl rfl rfl rfl (hY _ _ _ wr' hm hJn hpart) ?_
  rintro e W4 ⟨hs4, (⟨rfl, hJ4, hb4⟩ | ⟨rfl, hJx4⟩)⟩
  · refine ⟨_, rfl, ?_⟩
    have w4 := hm _ hm4
    replace rb4 := hs4.row rb4 (by omega) hm4
    replace hv := hv.sameB hs4.size (fun o ho => (hb4.same bl rfl).trans ho)
    have y4 := hs4.size
    rw [List.append_assoc, ← hst] at hJ4
    have hm4' : ∀ k, m' k → W.heap.size ≤ k ∧ k < W4.heap.size := fun k hk => by have := hm k hk; omega
    refine LL.val (R.not rfl rfl) rfl rfl rfl ?_
    refine LL.nilS ?_
    refine CC.no rfl ?_
    refine CC.skip ?_
    refine EE.inN ?_
    refine EE.thenN ?_
    refine CC.region ?_
    refine LL.val (R.addNc rfl rfl rfl rfl (by omega)) rfl rfl rfl ?_
    refine LL.val (R.move rfl rfl) rfl rfl rfl ?_
    refine LL.nil ?_
    exact EE.round (j + 1, m') ⟨rfl, rfl, rfl, rfl, rfl, rfl, rfl, trivial⟩ ⟨by show j + 1 ≤ n; omega, by omega, hJ4, hm4', hm4, rb4, hv⟩ (by show n - (j + 1) < n - j; omega)
  · refine ⟨_, rfl, ?_⟩
    refine LL.val (R.not rfl rfl) rfl rfl rfl ?_
    refine LL.nilS ?_
    refine CC.yes rfl ?_
    refine CC.ret ?_
    refine EE.inR ?_
    refine EE.thenR ?_
    refine EE.thenR ?_
    refine EE.inR ?_
    refine EE.inR ?_
    refine EE.thenR ?_
    refine EE.thenR ?_
    refine EE.inR ?_
    refine EE.ret _ rfl rfl ?_
    exact ⟨⟨_, rfl⟩, .inr ⟨_, _, hpart, hJx4⟩⟩
/-- The block of a list's cells, or another one if it has none. -/
theorem bkl_of {w : World} {a : Option Addr} {N cap : Nat} {l : List Ex} (hv : ReadsT eE 3 w (.slice a N cap) l) (hN : l.length = N) (bk : Nat) : ∃ bkl, (∀ b off, a = some ⟨b, off, none⟩ → 0 < N → b = bkl) ∧ (bkl = bk ∨ bkl < w.heap.size) := by
  by_cases h0 : 0 < N
  · obtain ⟨x, hx⟩ : ∃ x, l[0]? = some x := ⟨_, List.getElem?_eq_getElem (by omega)⟩
    obtain ⟨b, off, rfl, hb, _⟩ := hv.get eEnc hx
    exact ⟨b, fun b' off' e _ => by cases e; rfl, .inr hb⟩
  · exact ⟨bk, fun _ _ _ h => absurd h h0, .inl rfl⟩
abbrev plV (p : List Int) : Value := .agg (intsZ .i64 p).toArray
abbrev zeroP : List Int := List.replicate 128 0
set_option maxRecDepth 100000 in
set_option maxHeartbeats 8000000 in
theorem spread_any (l : List Ex) (a : Option Addr) (N cap : Nat) (w : World) (hl : ∀ x ∈ l, mayE x) (hN : l.length = N) (hN2 : N ≤ 1048576) (hv : ReadsT eE 3 w (.slice a N cap) l) : Calls Tryd.prog 36 #[.slice a N cap] w fun e w' => e = .returned (plV (plL l)) ∧ Below w.heap.size w w' := by
  have q := Below.refl w.heap.size w
  have hbf := fun bk => bkl_of hv hN bk
  refine X.fnM Tryd.func36 rfl (n := 14) rfl rfl ?_
  refine CC.seq ?_
  refine CC.region ?_
  refine LL.alloc (intsZ .i64 (List.replicate 128 0)) rfl rfl rfl rfl rfl ?_
  intro W2 g3 eg3 r4 z5 b1
  replace hv := hv.up b1
  replace q := q.trans (b1.mono q.size)
  refine LL.nilS ?_
  refine CC.seq ?_
  refine CC.region ?_
  have l6 := r4.lt
  refine LL.alloc (intsZ .i64 (List.replicate 128 0)) rfl rfl rfl rfl rfl ?_
  intro W8 g9 eg9 r10 z11 b7
  replace r4 := r4.up b7
  replace b1 := b1.trans (b7.mono b1.size)
  replace hv := hv.up b7
  replace q := q.trans (b7.mono q.size)
  refine LL.nilS ?_
  refine CC.seq ?_
  refine CC.seq ?_
  refine CC.region ?_
  refine LL.val (R.move rfl rfl) rfl rfl rfl ?_
  refine LL.call (R.call rfl rfl rfl) rfl rfl rfl (blocks_any _ _ _ _) ?_
  rintro e W13 ⟨g14, rfl, r15, l16, b12⟩
  refine ⟨_, rfl, ?_⟩
  have zb12 := b12.size
  replace r10 := r10.up b12
  replace b7 := b7.trans (b12.mono b7.size)
  replace r4 := r4.up b12
  replace b1 := b1.trans (b12.mono b1.size)
  replace hv := hv.up b12
  replace q := q.trans (b12.mono q.size)
  refine LL.nilS ?_
  refine CC.block ?_
  have yB := q.size
  have l3 := r4.lt
  have l9 := r10.lt
  obtain ⟨bkl, hbl, hbo⟩ := hbf g14
  have hbk : bkl < W13.heap.size := by have := r15.lt; omega
  have hb9 : bkl ≠ g9 := by omega
  refine CC.rangeZ (γ := Unit) (gf := 45) (lb := [.pointer (some ⟨g14, 0, none⟩)]) (encs := rE) rfl rfl (blocks_gives l hl a N cap g14 bkl W13 hN hN2 r15 hv hbl) (Below.refl _ _) (fun k hk => by (try simp only at hk); omega) (fun _ => rfl) rfl
    (fun m (pre : List Bl) W' => Below w.heap.size w W' ∧ RowL W' g3 70 (intsZ .i64 zeroP) ∧ RowL W' g9 70 (intsZ .i64 (plOf pre)))
    (fun _ _ _ => False)
    (fun W' => Below w.heap.size w W' ∧ RowL W' g3 70 (intsZ .i64 zeroP) ∧ RowL W' g9 70 (intsZ .i64 (plL l)))
    (by
      rintro m m' s X Y ⟨h1, h3, h9⟩ ht hg
      exact ⟨h1.trans (ht.below yB h1.size), ht.row h3 (.inl l3), ht.row h9 (.inl l9)⟩)
    (fun m m' s X Y hs ht hg => hs)
    ⟨q, r4, r10⟩ ?hIA (fun _ _ _ _ h => h.elim)
    (fun x _ => sl [(3, .pointer (some ⟨g9, 0, none⟩)), (4, .int .i64 x.1), (5, .int .i64 x.2)]) (fun _ _ _ => True) (fun x c => fun _ W W' row h hg hr => trivial) ?assign ?body ?after
  case hIA =>
    rintro m xs W' rfl ⟨h1, h3, h9⟩
    exact ⟨h1, h3, h9⟩
  case assign =>
    rintro l' m pre x W K hm ⟨h1, h3, h9⟩ hK
    refine CC.seq ?_
    refine CC.region ?_
    refine LL.val (R.assign rfl rfl) rfl rfl rfl ?_
    refine LL.nilS ?_
    refine CC.region ?_
    refine LL.val (R.assign rfl rfl) rfl rfl rfl ?_
    refine LL.nil ?_
    exact EE.thenK fun a' F => hK a' _ () (StaysZ.refl _ _ _) (Keeps.refl _ _) ⟨h1, h3, h9⟩ (F.keep _ ⟨rfl, rfl, rfl, trivial⟩) trivial
  case body =>
    rintro l' m pre ⟨f, d⟩ c W hm hl' hrl ⟨q, r4, r10⟩ _ ⟨_, rfl, tt, hp⟩
    have hx := blS_in hl (f, d) (by rw [← hp]; simp)
    obtain ⟨i, rfl⟩ : ∃ i : Nat, f = (i : Int) := ⟨f.toNat, by have := hx.1; simp only at this; omega⟩
    have hi : i < 128 := by have := hx.2.1; simp only at this; omega
    have st := StaysZ.refl W13.heap.size m W
    have kp := Keeps.refl (fun k => k = bkl) W
    have hset : plOf (pre ++ [((i : Int), d)]) = (plOf pre).set i d := by
      unfold plOf
      rw [plF_snoc]
      rfl
    have hpl := plOf_len pre
    have yq := q.size
    have l9' := r10.lt
    obtain ⟨_, hr0⟩ := hrl
    have hr1 := (Array.getElem?_eq_some_iff.1 hr0).1
    clear hr0
    have hbW : bkl < W.heap.size := by omega
    refine CC.block ?_
    refine CC.region ?_
    refine LL.val (R.move rfl rfl) rfl rfl rfl ?_
    refine LL.val (R.move rfl rfl) rfl rfl rfl ?_
    refine LL.val (R.index rfl rfl rfl (I.ixA1 rfl (by omega))) rfl rfl rfl ?_
    refine LL.storeZ rfl rfl (Nat.zero_add _) rfl rfl r10 (by first | omega | (simp only [List.length_set, List.length_replicate]; omega) | (rw [plOf_len]; omega)) rfl rfl ?_
    intro Wb2 rb3 bb1 zb4
    have hlbb1 := r10.lt
    clear r10
    replace q := q.grown bb1 q.size (by rintro k ⟨⟩; omega)
    replace r4 := r4.gr bb1 (by have := r4.lt; omega)
    replace st := st.trans (StaysZ.of_grown bb1 (by omega))
    replace kp := kp.trans (Keeps.of_grown bb1 fun k hk => by (try simp only at hk); omega)
    have r10 := rb3
    clear rb3
    refine LL.nil ?_
    refine EE.inN ?_
    exact EE.roundNZ ⟨st, kp, q, r4, by rw [hset]; exact r10⟩
  case after =>
    rintro E W hE ⟨h1, r4, r10⟩ hE1
    refine EE.thenN ?_
    refine CC.seq ?_
    refine CC.region ?_
    refine LL.val (R.loadZ rfl rfl r10 rfl rfl (by first | assumption | exact List.length_replicate | exact plL_len _ | exact plOf_len _ | simp)) rfl rfl rfl ?_
    refine LL.storeAZ rfl rfl rfl rfl (by first | assumption | exact List.length_replicate | exact plL_len _ | exact plOf_len _ | simp) r4 (by first | (rw [List.length_map]; exact (by first | assumption | exact List.length_replicate | exact plL_len _ | exact plOf_len _ | simp)) | simp) rfl rfl ?_
    intro Wc2 rc3 bc1 zc4
    have hlbc1 := r4.lt
    clear r4
    replace h1 := h1.grown bc1 h1.size (by rintro k ⟨⟩; omega)
    replace r10 := r10.gr bc1 (by have := r10.lt; omega)
    replace hE1 := (bc1.block _ (Array.getElem?_eq_some_iff.1 hE1).1 (by simp; omega)).trans hE1
    have r4 := rc3
    clear rc3
    refine LL.nilS ?_
    refine CC.ret ?_
    refine EE.retN1 hE1 rfl ⟨_, rfl, lvZ (taken_up (by assumption) (by omega)) rfl rfl (by first | assumption | exact List.length_replicate | exact plL_len _ | exact plOf_len _ | simp)⟩ ?_
    exact ⟨rfl, taken_bel h1 (by omega) (Nat.le_refl _)⟩
end Go.Proofs.YtklfopclaonggaaDoor
