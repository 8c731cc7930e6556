/- PmemOpens: the walk (written by tools/genpm.py). -/
import Derived.Test.YtajfffoaebjnlaaPm21
namespace Go.Proofs.Ytajfffoaebjnlaa
set_option linter.unusedVariables false
set_option linter.unusedSimpArgs false
open Go.RowKit Go.Shelf
structure LvO (W w : World) (g5 g6 gw gt : Nat) (many : Int) (v : Value) (s : List Nat) (tv : Int) : Prop where
  rk : RowL W g5 3 [.int .i64 many]
  rr : RowL W g6 4 [.bool false]
  rw : RowL W gw 59 [v]
  rt : RowL W gt 3 [.int .i64 tv]
  rd : ReadsT iE 1 W v s
  bel : Below w.heap.size w W
theorem LvO.lift {W W' w : World} {g5 g6 gw gt : Nat} {many : Int} {v : Value} {s : List Nat} {tv : Int} (h : LvO W w g5 g6 gw gt many v s tv) (hb : Below W.heap.size W W') : LvO W' w g5 g6 gw gt many v s tv :=
  ⟨h.rk.up hb, h.rr.up hb, h.rw.up hb, h.rt.up hb, h.rd.up hb, h.bel.trans (hb.mono h.bel.size)⟩
set_option maxRecDepth 100000
set_option maxHeartbeats 8000000
theorem opens_walk (v0 v1 : Value) (ws : List Nat) (xs : List (Int × Int × Int)) (w : World) (hv : ReadsT uE 1 w v0 ws) (hs : ReadsT actE 3 w v1 xs) (hx : ∀ x ∈ xs, 0 ≤ x.2.2) (hL : ws.length ≤ 9223372036854775807) (hn : xs.length ≤ 9223372036854775807) (many : Int) : Calls Try.prog 6 #[v0, v1, .int .i64 many] w fun e w' => e = .returned (.bool true) ∧ Below w.heap.size w w' := by
  have q := Below.refl w.heap.size w
  obtain ⟨a0, c0, rfl, _⟩ := hv.form rfl
  obtain ⟨a1, c1, rfl, _⟩ := hs.form rfl
  obtain ⟨L, eL⟩ : ∃ L, ws.length = L := ⟨_, rfl⟩
  obtain ⟨n, en⟩ : ∃ n, xs.length = n := ⟨_, rfl⟩
  rw [eL] at hv hL ⊢
  rw [en] at hs hn ⊢
  have hvF : ∀ W, Below w.heap.size w W → ReadsT uE 1 W (.slice a0 L c0) ws := fun W b => hv.up b
  have hsF : ∀ W, Below w.heap.size w W → ReadsT actE 3 W (.slice a1 n c1) xs := fun W b => hs.up b
  clear hv hs
  by_cases h64 : L ≤ 64
  case neg =>
    refine X.fnM Try.func6 rfl (n := 118) rfl rfl ?_
    refine CC.seq ?_
    refine CC.region ?_
    refine LL.box [Value.int IntKind.i64 many] rfl rfl rfl rfl rfl ?_
    intro W2 g3 eg3 r4 z5 b1
    replace q := q.trans (b1.mono q.size)
    have l6 := r4.lt
    refine LL.alloc ([Value.bool false]) rfl rfl rfl rfl rfl ?_
    intro W8 g9 eg9 r10 z11 b7
    replace r4 := r4.up b7
    replace b1 := b1.trans (b7.mono b1.size)
    replace q := q.trans (b7.mono q.size)
    refine LL.nilS ?_
    refine CC.seq ?_
    refine CC.seq ?_
    refine CC.region ?_
    refine LL.val (R.move rfl rfl) rfl rfl rfl ?_
    refine LL.val (R.len rfl rfl rfl rfl) rfl rfl rfl ?_
    refine LL.val (R.gtT rfl rfl rfl (by omega)) rfl rfl rfl ?_
    refine LL.val (R.move rfl rfl) rfl rfl rfl ?_
    refine LL.skip rfl rfl ?_
    refine LL.skip rfl rfl ?_
    refine LL.skip rfl rfl ?_
    refine LL.skip rfl rfl ?_
    refine LL.val (R.pick rfl rfl rfl) rfl rfl rfl ?_
    refine LL.val (R.move rfl rfl) rfl rfl rfl ?_
    refine LL.skip rfl rfl ?_
    refine LL.skip rfl rfl ?_
    refine LL.skip rfl rfl ?_
    refine LL.val (R.pick rfl rfl rfl) rfl rfl rfl ?_
    refine LL.nilS ?_
    refine CC.yes rfl ?_
    refine CC.seq ?_
    refine CC.region ?_
    refine LL.call (R.call rfl rfl rfl) rfl rfl rfl (works_any _) ?_
    rintro e W13 ⟨rfl, b12⟩
    refine ⟨_, rfl, ?_⟩
    have zb12 := b12.size
    replace r10 := r10.up b12
    replace b7 := b7.trans (b12.mono b7.size)
    replace r4 := r4.up b12
    replace b1 := b1.trans (b12.mono b1.size)
    replace q := q.trans (b12.mono q.size)
    refine LL.store rfl rfl rfl rfl r10 (by exact Nat.le_of_ble_eq_true rfl) rfl rfl rfl rfl ?_
    intro W16 r17 b15 z18
    have hlb15 := r10.lt
    replace r17 : RowL W16 _ 4 [Value.bool true] := r17
    clear r10
    replace b7 := b7.grown b15 b7.size (by rintro k ⟨⟩; omega)
    replace r4 := r4.gr b15 (by have := r4.lt; omega)
    replace b1 := b1.grown b15 b1.size (by rintro k ⟨⟩; omega)
    replace q := q.grown b15 q.size (by rintro k ⟨⟩; omega)
    have r10 := r17
    clear r17
    refine LL.nilS ?_
    refine CC.ret ?_
    refine EE.thenR ?_
    refine EE.retM1 rfl ⟨_, rfl, lv1 rfl (RowL.cell (by assumption) rfl)⟩ ?_
    exact ⟨rfl, q⟩
  by_cases h8 : 8 ≤ L ∧ L % 8 = 0
  case neg =>
    have hr : (L : Int) < 8 ∨ 131072 < (L : Int) ∨ (L : Int) % 8 ≠ 0 := by omega
    clear h8
    refine X.fnM Try.func6 rfl (n := 118) rfl rfl ?_
    refine CC.seq ?_
    refine CC.region ?_
    refine LL.box [Value.int IntKind.i64 many] rfl rfl rfl rfl rfl ?_
    intro Wa2 ga3 ega3 ra4 za5 ba1
    replace q := q.trans (ba1.mono q.size)
    have la6 := ra4.lt
    refine LL.alloc ([Value.bool false]) rfl rfl rfl rfl rfl ?_
    intro Wa8 ga9 ega9 ra10 za11 ba7
    replace ra4 := ra4.up ba7
    replace ba1 := ba1.trans (ba7.mono ba1.size)
    replace q := q.trans (ba7.mono q.size)
    refine LL.nilS ?_
    refine CC.seq ?_
    refine CC.seq ?_
    refine CC.region ?_
    refine LL.val (R.move rfl rfl) rfl rfl rfl ?_
    refine LL.val (R.len rfl rfl rfl rfl) rfl rfl rfl ?_
    refine LL.val (R.gtF rfl rfl rfl (by omega)) rfl rfl rfl ?_
    refine LL.val (R.move rfl rfl) rfl rfl rfl ?_
    refine LL.val (R.move rfl rfl) rfl rfl rfl ?_
    refine LL.val (R.len rfl rfl rfl rfl) rfl rfl rfl ?_
    refine LL.call (R.call rfl rfl rfl) rfl rfl rfl (right_F _ _ (by first | assumption | omega)) ?_
    rintro e W' ⟨rfl, rfl⟩
    refine ⟨_, rfl, ?_⟩
    refine LL.val (R.not rfl rfl) rfl rfl rfl ?_
    refine LL.val (R.pick rfl rfl rfl) rfl rfl rfl ?_
    refine LL.val (R.move rfl rfl) rfl rfl rfl ?_
    refine LL.skip rfl rfl ?_
    refine LL.skip rfl rfl ?_
    refine LL.skip rfl rfl ?_
    refine LL.val (R.pick rfl rfl rfl) rfl rfl rfl ?_
    refine LL.nilS ?_
    refine CC.yes rfl ?_
    refine CC.seq ?_
    refine CC.region ?_
    refine LL.call (R.call rfl rfl rfl) rfl rfl rfl (works_any _) ?_
    rintro e Wa13 ⟨rfl, ba12⟩
    refine ⟨_, rfl, ?_⟩
    have zba12 := ba12.size
    replace ra10 := ra10.up ba12
    replace ba7 := ba7.trans (ba12.mono ba7.size)
    replace ra4 := ra4.up ba12
    replace ba1 := ba1.trans (ba12.mono ba1.size)
    replace q := q.trans (ba12.mono q.size)
    refine LL.store rfl rfl rfl rfl ra10 (by exact Nat.le_of_ble_eq_true rfl) rfl rfl rfl rfl ?_
    intro Wa16 ra17 ba15 za18
    have hlba15 := ra10.lt
    replace ra17 : RowL Wa16 _ 4 [Value.bool true] := ra17
    clear ra10
    replace ba7 := ba7.grown ba15 ba7.size (by rintro k ⟨⟩; omega)
    replace ra4 := ra4.gr ba15 (by have := ra4.lt; omega)
    replace ba1 := ba1.grown ba15 ba1.size (by rintro k ⟨⟩; omega)
    replace q := q.grown ba15 q.size (by rintro k ⟨⟩; omega)
    have ra10 := ra17
    clear ra17
    refine LL.nilS ?_
    refine CC.ret ?_
    refine EE.thenR ?_
    refine EE.retM1 rfl ⟨_, rfl, lv1 rfl (RowL.cell (by assumption) rfl)⟩ ?_
    exact ⟨rfl, q⟩
  obtain ⟨N, rfl⟩ : ∃ N, L = N * 8 := ⟨L / 8, by omega⟩
  have h0 : 0 < N := by omega
  have hN : N ≤ 16384 := by omega
  clear h8
  by_cases h60 : n ≤ 60
  case neg =>
    refine X.fnM Try.func6 rfl (n := 118) rfl rfl ?_
    refine CC.seq ?_
    refine CC.region ?_
    refine LL.box [Value.int IntKind.i64 many] rfl rfl rfl rfl rfl ?_
    intro Wb2 gb3 egb3 rb4 zb5 bb1
    replace q := q.trans (bb1.mono q.size)
    have lb6 := rb4.lt
    refine LL.alloc ([Value.bool false]) rfl rfl rfl rfl rfl ?_
    intro Wb8 gb9 egb9 rb10 zb11 bb7
    replace rb4 := rb4.up bb7
    replace bb1 := bb1.trans (bb7.mono bb1.size)
    replace q := q.trans (bb7.mono q.size)
    refine LL.nilS ?_
    refine CC.seq ?_
    refine CC.seq ?_
    refine CC.region ?_
    refine LL.val (R.move rfl rfl) rfl rfl rfl ?_
    refine LL.val (R.len rfl rfl rfl rfl) rfl rfl rfl ?_
    refine LL.val (R.gtF rfl rfl rfl (by omega)) rfl rfl rfl ?_
    refine LL.val (R.move rfl rfl) rfl rfl rfl ?_
    refine LL.val (R.move rfl rfl) rfl rfl rfl ?_
    refine LL.val (R.len rfl rfl rfl rfl) rfl rfl rfl ?_
    refine LL.call (R.call rfl rfl rfl) rfl rfl rfl (right_T _ _ (by first | assumption | omega)) ?_
    rintro e W' ⟨rfl, rfl⟩
    refine ⟨_, rfl, ?_⟩
    refine LL.val (R.not rfl rfl) rfl rfl rfl ?_
    refine LL.val (R.pick rfl rfl rfl) rfl rfl rfl ?_
    refine LL.val (R.move rfl rfl) rfl rfl rfl ?_
    refine LL.val (R.move rfl rfl) rfl rfl rfl ?_
    refine LL.val (R.len rfl rfl rfl rfl) rfl rfl rfl ?_
    refine LL.val (R.gtT rfl rfl rfl (by omega)) rfl rfl rfl ?_
    refine LL.val (R.pick rfl rfl rfl) rfl rfl rfl ?_
    refine LL.nilS ?_
    refine CC.yes rfl ?_
    refine CC.seq ?_
    refine CC.region ?_
    refine LL.call (R.call rfl rfl rfl) rfl rfl rfl (works_any _) ?_
    rintro e Wb13 ⟨rfl, bb12⟩
    refine ⟨_, rfl, ?_⟩
    have zbb12 := bb12.size
    replace rb10 := rb10.up bb12
    replace bb7 := bb7.trans (bb12.mono bb7.size)
    replace rb4 := rb4.up bb12
    replace bb1 := bb1.trans (bb12.mono bb1.size)
    replace q := q.trans (bb12.mono q.size)
    refine LL.store rfl rfl rfl rfl rb10 (by exact Nat.le_of_ble_eq_true rfl) rfl rfl rfl rfl ?_
    intro Wb16 rb17 bb15 zb18
    have hlbb15 := rb10.lt
    replace rb17 : RowL Wb16 _ 4 [Value.bool true] := rb17
    clear rb10
    replace bb7 := bb7.grown bb15 bb7.size (by rintro k ⟨⟩; omega)
    replace rb4 := rb4.gr bb15 (by have := rb4.lt; omega)
    replace bb1 := bb1.grown bb15 bb1.size (by rintro k ⟨⟩; omega)
    replace q := q.grown bb15 q.size (by rintro k ⟨⟩; omega)
    have rb10 := rb17
    clear rb17
    refine LL.nilS ?_
    refine CC.ret ?_
    refine EE.thenR ?_
    refine EE.retM1 rfl ⟨_, rfl, lv1 rfl (RowL.cell (by assumption) rfl)⟩ ?_
    exact ⟨rfl, q⟩
  refine X.fnM Try.func6 rfl (n := 118) rfl rfl ?_
  refine CC.seq ?_
  refine CC.region ?_
  refine LL.box [Value.int IntKind.i64 many] rfl rfl rfl rfl rfl ?_
  intro Wc16 gc17 egc17 rc18 zc19 bc15
  replace q := q.trans (bc15.mono q.size)
  have lc36 := rc18.lt
  refine LL.alloc ([Value.bool false]) rfl rfl rfl rfl rfl ?_
  intro Wc38 gc39 egc39 rc40 zc41 bc37
  replace rc18 := rc18.up bc37
  replace bc15 := bc15.trans (bc37.mono bc15.size)
  replace q := q.trans (bc37.mono q.size)
  refine LL.nilS ?_
  refine CC.seq ?_
  refine CC.seq ?_
  refine CC.region ?_
  refine LL.val (R.move rfl rfl) rfl rfl rfl ?_
  refine LL.val (R.len rfl rfl rfl rfl) rfl rfl rfl ?_
  refine LL.val (R.gtF rfl rfl rfl (by omega)) rfl rfl rfl ?_
  refine LL.val (R.move rfl rfl) rfl rfl rfl ?_
  refine LL.val (R.move rfl rfl) rfl rfl rfl ?_
  refine LL.val (R.len rfl rfl rfl rfl) rfl rfl rfl ?_
  refine LL.call (R.call rfl rfl rfl) rfl rfl rfl (right_T _ _ (by first | assumption | omega)) ?_
  rintro e W' ⟨rfl, rfl⟩
  refine ⟨_, rfl, ?_⟩
  refine LL.val (R.not rfl rfl) rfl rfl rfl ?_
  refine LL.val (R.pick rfl rfl rfl) rfl rfl rfl ?_
  refine LL.val (R.move rfl rfl) rfl rfl rfl ?_
  refine LL.val (R.move rfl rfl) rfl rfl rfl ?_
  refine LL.val (R.len rfl rfl rfl rfl) rfl rfl rfl ?_
  refine LL.val (R.gtF rfl rfl rfl (by omega)) rfl rfl rfl ?_
  refine LL.val (R.pick rfl rfl rfl) rfl rfl rfl ?_
  refine LL.nilS ?_
  refine CC.no rfl ?_
  refine CC.skip ?_
  refine EE.thenN ?_
  refine CC.seq ?_
  refine CC.region ?_
  refine LL.val (R.move rfl rfl) rfl rfl rfl ?_
  have lc316 := rc40.lt
  have lc317 := rc18.lt
  (refine LL.call (R.call rfl rfl rfl) rfl rfl rfl (of_T a0 (N * 8) c0 N ws _ (hvF _ q) rfl h0 hN) ?_; rintro e Wc315 ⟨m, gn, gl, qb, rfl, M, lm, ln, ll, lq, bc312⟩; refine ⟨_, rfl, ?_⟩; have lts := M.lts)
  have zbc312 := bc312.size
  replace rc40 := rc40.up bc312
  replace bc37 := bc37.trans (bc312.mono bc37.size)
  replace rc18 := rc18.up bc312
  replace bc15 := bc15.trans (bc312.mono bc15.size)
  replace q := q.trans (bc312.mono q.size)
  refine LL.val (R.move rfl rfl) rfl rfl rfl ?_
  refine LL.val (R.extract rfl rfl rfl) rfl rfl rfl ?_
  refine LL.val (R.extract rfl rfl rfl) rfl rfl rfl ?_
  refine LL.val (R.assign rfl rfl) rfl rfl rfl ?_
  refine LL.val (R.assign rfl rfl) rfl rfl rfl ?_
  refine LL.nilS ?_
  refine CC.seq ?_
  refine CC.region ?_
  refine LL.val (R.move rfl rfl) rfl rfl rfl ?_
  have lc442 := rc40.lt
  have lc443 := rc18.lt
  (refine LL.call (R.call rfl rfl rfl) rfl rfl rfl (dof_any a0 (N * 8) c0 N ws _ (hvF _ q) rfl h0 hN) ?_; rintro e Wc441 ⟨g, cap, rfl, hd, lg, lg2, bc438⟩; refine ⟨_, rfl, ?_⟩)
  have zbc438 := bc438.size
  replace M := M.up bc438
  replace bc312 := bc312.trans (bc438.mono bc312.size)
  replace rc40 := rc40.up bc438
  replace bc37 := bc37.trans (bc438.mono bc37.size)
  replace rc18 := rc18.up bc438
  replace bc15 := bc15.trans (bc438.mono bc15.size)
  replace q := q.trans (bc438.mono q.size)
  refine LL.val (R.assign rfl rfl) rfl rfl rfl ?_
  refine LL.nilS ?_
  refine CC.seq ?_
  refine CC.seq ?_
  refine CC.region ?_
  refine LL.val (R.move rfl rfl) rfl rfl rfl ?_
  refine LL.call (R.call rfl rfl rfl) rfl rfl rfl (num_any _ _) ?_
  rintro e W' ⟨rfl, rfl⟩
  refine ⟨_, rfl, ?_⟩
  refine LL.val (R.neF rfl rfl rfl (by omega)) rfl rfl rfl ?_
  refine LL.nilS ?_
  refine CC.no rfl ?_
  refine CC.skip ?_
  refine EE.thenN ?_
  refine CC.seq ?_
  refine CC.seq ?_
  refine CC.region ?_
  refine LL.val (R.assign rfl rfl) rfl rfl rfl ?_
  refine LL.nilS ?_
  refine CC.block ?_
  have yq := q.size
  obtain ⟨g5, e5⟩ : ∃ g, g = gc17 := ⟨_, rfl⟩
  obtain ⟨g6, e6⟩ : ∃ g, g = gc39 := ⟨_, rfl⟩
  have r5 := rc18
  have r6 := rc40
  have hb56 : w.heap.size ≤ g5 ∧ g5 < g6 := by omega
  have hb6m : g6 < m ∧ g6 < gn ∧ g6 < gl ∧ g6 < qb ∧ g6 < g := by omega
  replace lm : w.heap.size ≤ m := by omega
  replace ln : w.heap.size ≤ gn := by omega
  replace ll : w.heap.size ≤ gl := by omega
  replace lq : w.heap.size ≤ qb := by omega
  subst e5
  subst e6
  refine CC.loop (α := PSt) (fun t => [(0, .slice a0 (N * 8) c0), (1, .slice a1 n c1), (5, .pointer (some ⟨g5, 0, none⟩)), (6, .pointer (some ⟨g6, 0, none⟩)), (7, .pointer (some ⟨t.m, 0, none⟩)), (9, .slice (some ⟨t.g, 0, none⟩) N t.cap), (10, .int .i64 (t.i : Int))]) (fun t W => PSt.I w N n t W ∧ RowL W g5 3 [.int .i64 many] ∧ RowL W g6 4 [.bool false] ∧ g6 < t.m ∧ g6 < t.gn ∧ g6 < t.gl ∧ g6 < t.qb ∧ g6 < t.g) (fun t => n - t.i) ⟨0, ofS N ws, g, cap, m, gn, gl, qb⟩ ⟨rfl, rfl, rfl, rfl, rfl, rfl, rfl, trivial⟩ ⟨⟨by show 0 ≤ n; omega, q, M, hd, ⟨by show g ≠ gn; omega, by show g ≠ gl; omega, by show g ≠ qb; omega, by show g < _; omega⟩, lm, ln, ll, lq, by show w.heap.size ≤ g; omega⟩, r5, r6, by show g6 < m; omega, by show g6 < gn; omega, by show g6 < gl; omega, by show g6 < qb; omega, by show g6 < g; omega⟩ ?_
  clear q M hd
  clear r5 r6
  rintro ⟨i, s, g, cap, m, gn, gl, qb⟩ W ⟨⟨hi, q, M, hd, hg, lm, ln, ll, lq, lg⟩, r5, r6, j1, j2, j3, j4, j5⟩
  simp only at j1 j2 j3 j4 j5
  simp only at hi M hd hg lm ln ll lq lg
  show CC none Try.prog _ 118 [] (sl [(0, .slice a0 (N * 8) c0), (1, .slice a1 n c1), (5, .pointer (some ⟨g5, 0, none⟩)), (6, .pointer (some ⟨g6, 0, none⟩)), (7, .pointer (some ⟨m, 0, none⟩)), (9, .slice (some ⟨g, 0, none⟩) N cap), (10, .int .i64 (i : Int))]) _ W
  have yw := q.size
  by_cases hlt : i < n
  case pos =>
    obtain ⟨⟨a, b, v⟩, hget⟩ : ∃ x, xs[i]? = some x := ⟨_, List.getElem?_eq_getElem (by omega)⟩
    have hv0 := hx _ (List.mem_of_getElem? hget)
    simp only at hv0
    obtain ⟨v, rfl⟩ : ∃ v' : Nat, v = (v' : Int) := ⟨v.toNat, by omega⟩
    obtain ⟨bs, os, rfl, lbs, _⟩ := (hsF w (Below.refl _ _)).get actEnc hget
    have m1 : CellsN W ⟨bs, os + i * 3, none⟩ 3 [.int .i64 a, .int .i64 b, .int .u64 (v : Int)] := (hsF W q).elemN actEnc hget
    refine CC.seq ?_
    refine CC.seq ?_
    refine CC.region ?_
    refine LL.val (R.move rfl rfl) rfl rfl rfl ?_
    refine LL.val (R.move rfl rfl) rfl rfl rfl ?_
    refine LL.val (R.len rfl rfl rfl rfl) rfl rfl rfl ?_
    refine LL.val (R.ltT rfl rfl rfl (by omega)) rfl rfl rfl ?_
    refine LL.nilS ?_
    refine CC.yes rfl ?_
    refine CC.skip ?_
    refine EE.thenN ?_
    refine CC.seq ?_
    refine CC.block ?_
    refine CC.seq ?_
    refine CC.region ?_
    refine LL.val (R.move rfl rfl) rfl rfl rfl ?_
    refine LL.val (R.move rfl rfl) rfl rfl rfl ?_
    refine LL.val (R.move rfl rfl) rfl rfl rfl ?_
    refine LL.val (R.move rfl rfl) rfl rfl rfl ?_
    refine LL.val (R.index rfl rfl rfl (I.ixS rfl (by omega))) rfl rfl rfl ?_
    refine LL.val (R.load rfl rfl (I.ldM (by assumption) rfl rfl)) rfl rfl rfl ?_
    (refine LL.call (R.call rfl rfl rfl) rfl rfl rfl (act_any m gn gl qb N g cap _ b v _ M hd hg) ?_; rintro e Wd74 ⟨s2, g2, cap2, rfl, M2, hd2, hg2, hg3, td73⟩; refine ⟨_, rfl, ?_⟩; have lts := M.lts; clear M hd m1; have M := M2; have hd := hd2; clear M2 hd2)
    have ztd73 := td73.size
    replace q := td73.onB q (fun j hj => ⟨by have := q.size; omega, by omega⟩)
    replace r5 := r5.kept td73 ⟨r5.lt, by omega⟩
    replace r6 := r6.kept td73 ⟨r6.lt, by omega⟩
    refine LL.val (R.move rfl rfl) rfl rfl rfl ?_
    refine LL.val (R.extract rfl rfl rfl) rfl rfl rfl ?_
    refine LL.val (R.extract rfl rfl rfl) rfl rfl rfl ?_
    refine LL.val (R.assign rfl rfl) rfl rfl rfl ?_
    refine LL.val (R.assign rfl rfl) rfl rfl rfl ?_
    refine LL.nilS ?_
    refine CC.seq ?_
    refine CC.region ?_
    refine LL.val (R.move rfl rfl) rfl rfl rfl ?_
    refine LL.val (R.assign rfl rfl) rfl rfl rfl ?_
    refine LL.nilS ?_
    refine CC.seq ?_
    refine CC.region ?_
    refine LL.val (R.move rfl rfl) rfl rfl rfl ?_
    refine LL.val (R.not rfl rfl) rfl rfl rfl ?_
    refine LL.nilS ?_
    refine CC.no rfl ?_
    refine CC.skip ?_
    refine EE.inN ?_
    refine EE.thenN ?_
    refine CC.region ?_
    refine LL.val (R.move rfl rfl) rfl rfl rfl ?_
    refine LL.val (R.addNc rfl rfl rfl rfl (by omega)) rfl rfl rfl ?_
    refine LL.val (R.assign rfl rfl) rfl rfl rfl ?_
    refine LL.nil ?_
    exact EE.round ⟨i + 1, s2, g2, cap2, m, gn, gl, qb⟩ ⟨rfl, rfl, rfl, rfl, rfl, rfl, rfl, trivial⟩ ⟨⟨by show i + 1 ≤ n; omega, q, M, hd, ⟨by show g2 ≠ gn; omega, by show g2 ≠ gl; omega, by show g2 ≠ qb; omega, by show g2 < _; omega⟩, lm, ln, ll, lq, by show w.heap.size ≤ g2; omega⟩, r5, r6, by show g6 < m; omega, by show g6 < gn; omega, by show g6 < gl; omega, by show g6 < qb; omega, by show g6 < g2; omega⟩ (by show n - (i + 1) < n - i; omega)
  obtain rfl : i = n := by omega
  have hKl := opS_len M
  obtain ⟨K, hK⟩ : ∃ K, (opS s).length = K := ⟨_, rfl⟩
  rw [hK] at hKl
  refine CC.seq ?_
  refine CC.seq ?_
  refine CC.region ?_
  refine LL.val (R.move rfl rfl) rfl rfl rfl ?_
  refine LL.val (R.move rfl rfl) rfl rfl rfl ?_
  refine LL.val (R.len rfl rfl rfl rfl) rfl rfl rfl ?_
  refine LL.val (R.ltF rfl rfl rfl (by omega)) rfl rfl rfl ?_
  refine LL.nilS ?_
  refine CC.no rfl ?_
  refine CC.exit ?_
  refine EE.thenX ?_
  refine EE.thenX ?_
  refine EE.inX ?_
  refine EE.thenN ?_
  refine CC.seq ?_
  refine CC.region ?_
  refine LL.val (R.move rfl rfl) rfl rfl rfl ?_
  have le95 := r5.lt
  have le96 := r6.lt
  (refine LL.call (R.call rfl rfl rfl) rfl rfl rfl (dopen_any s g N cap _ hd M.len hN) ?_; rintro e We94 ⟨vo, rfl, ow, be91⟩; refine ⟨_, rfl, ?_⟩; clear hd; obtain ⟨av, cv, rfl, hcv⟩ := (ow.reads iEnc).form hK; have hrdF := fun W' (hb : Below (We94).heap.size (We94) W') => (ow.reads iEnc).up hb; clear ow; have lts := M.lts)
  have zbe91 := be91.size
  replace q := q.trans (be91.mono q.size)
  replace M := M.up be91
  replace r5 := r5.up be91
  replace r6 := r6.up be91
  have le118 := r5.lt
  have le119 := r6.lt
  refine LL.alloc ([Value.slice none 0 0]) rfl rfl rfl rfl rfl ?_
  intro We121 ge122 ege122 re123 ze124 be120
  replace be91 := be91.trans (be120.mono be91.size)
  replace q := q.trans (be120.mono q.size)
  replace M := M.up be120
  replace r5 := r5.up be120
  replace r6 := r6.up be120
  refine LL.store rfl rfl rfl rfl re123 (by exact Nat.le_of_ble_eq_true rfl) rfl rfl rfl rfl ?_
  intro We146 re147 be145 ze148
  have hlbe145 := re123.lt
  replace re147 : RowL We146 _ 59 [Value.slice av K cv] := re147
  clear re123
  replace be120 := be120.grown be145 be120.size (by rintro k ⟨⟩; omega)
  replace be91 := be91.grown be145 be91.size (by rintro k ⟨⟩; omega)
  replace q := q.grown be145 q.size (by rintro k ⟨⟩; omega)
  replace M := M.gr be145 (by omega)
  replace r5 := r5.gr be145 (by have := r5.lt; omega)
  replace r6 := r6.gr be145 (by have := r6.lt; omega)
  have re123 := re147
  clear re147
  refine LL.nilS ?_
  refine CC.seq ?_
  refine CC.region ?_
  refine LL.val (R.move rfl rfl) rfl rfl rfl ?_
  have le183 := r5.lt
  have le184 := r6.lt
  have le185 := re123.lt
  (refine LL.call (R.call rfl rfl rfl) rfl rfl rfl (popen_any m gn gl qb N _ M) ?_; rintro e We182 ⟨bk, a5, c5, rfl, rb, hr, hbk, hbo, be179⟩; refine ⟨_, rfl, ?_⟩; rw [hK] at rb hr hbo; have hrF := fun W' (hb : Below (We182).heap.size (We182) W') => hr.up hb; clear hr; clear M)
  have zbe179 := be179.size
  replace be120 := be120.trans (be179.mono be120.size)
  replace be91 := be91.trans (be179.mono be91.size)
  replace q := q.trans (be179.mono q.size)
  replace r5 := r5.up be179
  replace r6 := r6.up be179
  replace re123 := re123.up be179
  refine LL.val (R.assign rfl rfl) rfl rfl rfl ?_
  refine LL.nilS ?_
  refine CC.seq ?_
  refine CC.seq ?_
  refine CC.region ?_
  refine LL.val (R.move rfl rfl) rfl rfl rfl ?_
  refine LL.val (R.eqFn rfl rfl rfl rfl) rfl rfl rfl ?_
  refine LL.nilS ?_
  refine CC.no rfl ?_
  refine CC.skip ?_
  refine EE.thenN ?_
  refine CC.seq ?_
  refine CC.seq ?_
  refine CC.region ?_
  have le277 := rb.lt
  have le278 := r5.lt
  have le279 := r6.lt
  have le280 := re123.lt
  refine LL.alloc ([Value.int IntKind.i64 0]) rfl rfl rfl rfl rfl ?_
  intro We282 ge283 ege283 re284 ze285 be281
  replace rb := rb.up be281
  replace be179 := be179.trans (be281.mono be179.size)
  replace be120 := be120.trans (be281.mono be120.size)
  replace be91 := be91.trans (be281.mono be91.size)
  replace q := q.trans (be281.mono q.size)
  replace r5 := r5.up be281
  replace r6 := r6.up be281
  replace re123 := re123.up be281
  refine LL.store rfl rfl rfl rfl re284 (by exact Nat.le_of_ble_eq_true rfl) rfl rfl rfl rfl ?_
  intro We311 re312 be310 ze313
  have hlbe310 := re284.lt
  replace re312 : RowL We311 _ 3 [Value.int IntKind.i64 0] := re312
  clear re284
  replace be281 := be281.grown be310 be281.size (by rintro k ⟨⟩; omega)
  replace rb := rb.gr be310 (by have := rb.lt; omega)
  replace be179 := be179.grown be310 be179.size (by rintro k ⟨⟩; omega)
  replace be120 := be120.grown be310 be120.size (by rintro k ⟨⟩; omega)
  replace be91 := be91.grown be310 be91.size (by rintro k ⟨⟩; omega)
  replace q := q.grown be310 q.size (by rintro k ⟨⟩; omega)
  replace r5 := r5.gr be310 (by have := r5.lt; omega)
  replace r6 := r6.gr be310 (by have := r6.lt; omega)
  replace re123 := re123.gr be310 (by have := re123.lt; omega)
  have re284 := re312
  clear re312
  refine LL.nilS ?_
  refine CC.block ?_
  have hrd := hrdF _ be120
  have hr := hrF _ be281
  clear hrdF hrF
  obtain ⟨bkl, hbl, hbB, hblt⟩ := bkl_own hr hK hbo hbk rb.lt
  have hG := vals1_gives (opS s) a5 K c5 bk bkl We311 hK (by omega) rb hr hbl
  obtain ⟨L, hL⟩ : ∃ L, opS s = L := ⟨_, rfl⟩
  rw [hL] at hG hrd hK
  have qB := Below.refl We311.heap.size We311
  refine CC.keep [(5, .pointer (some ⟨g5, 0, none⟩)), (6, .pointer (some ⟨g6, 0, none⟩)), (13, .pointer (some ⟨ge122, 0, none⟩)), (14, .func (.func 66) #[] [Value.pointer (some ⟨bk, 0, none⟩)].toArray), (15, .pointer (some ⟨ge283, 0, none⟩))] ⟨rfl, rfl, rfl, rfl, rfl, trivial⟩ ?_
  refine CC.loopN 3 ?_
  have hV : LvO We311 w g5 g6 ge122 ge283 many (.slice av K cv) L 0 := ⟨r5, r6, re123, re284, hrd, q⟩
  have jsz := q.size
  have j13 := re123.lt
  have j15 := re284.lt
  have hbk0 : w.heap.size ≤ bkl := by omega
  have hg13 : w.heap.size ≤ ge122 ∧ w.heap.size ≤ ge283 ∧ g6 < ge122 ∧ ge122 < ge283 := by omega
  clear hrd re123 r5 r6 hr rb q hsF hvF rc18 rc40 be281 be179 be120 be91 be310 be145 bc312 bc37 bc15 bc438
  refine RN.step ?_
  refine CC.seq ?_
  refine CC.seq ?_
  refine CC.region ?_
  refine LL.val (R.load rfl rfl (I.ld1 rfl (RowL.cell re284 rfl))) rfl rfl rfl ?_
  refine LL.val (R.ltT rfl rfl rfl (by omega)) rfl rfl rfl ?_
  refine LL.nilS ?_
  refine CC.yes rfl ?_
  refine CC.skip ?_
  refine EE.thenN ?_
  refine CC.seq ?_
  refine CC.block ?_
  refine CC.seq ?_
  refine CC.region ?_
  have lf1 := re284.lt
  refine LL.alloc ([Value.int IntKind.i64 0]) rfl rfl rfl rfl rfl ?_
  intro Wf3 gf4 egf4 rf5 zf6 bf2
  replace re284 := re284.up bf2
  replace qB := qB.trans (bf2.mono qB.size)
  refine LL.store rfl rfl rfl rfl rf5 (by exact Nat.le_of_ble_eq_true rfl) rfl rfl rfl rfl ?_
  intro Wf8 rf9 bf7 zf10
  have hlbf7 := rf5.lt
  replace rf9 : RowL Wf8 _ 3 [Value.int IntKind.i64 0] := rf9
  clear rf5
  replace bf2 := bf2.grown bf7 bf2.size (by rintro k ⟨⟩; omega)
  replace re284 := re284.gr bf7 (by have := re284.lt; omega)
  replace qB := qB.grown bf7 qB.size (by rintro k ⟨⟩; omega)
  have rf5 := rf9
  clear rf9
  refine LL.nilS ?_
  refine CC.seq ?_
  refine CC.seq ?_
  refine CC.region ?_
  refine LL.val (R.move rfl rfl) rfl rfl rfl ?_
  refine LL.nilS ?_
  refine CC.block ?_
  have yB := qB.size
  have kn := rf5.lt
  clear re284
  refine CC.rangeZ (γ := Unit) (gf := 66) (lb := [Value.pointer (some ⟨bk, 0, none⟩)]) (encs := iE) rfl rfl hG qB (fun k hk => by (try simp only at hk); omega) (fun _ => rfl) rfl
    (fun m (pre : List Nat) W' => Below We311.heap.size We311 W' ∧ RowL W' gf4 3 [.int .i64 (pre.length : Int)] ∧ (pre.length = 0 ∨ (pre.length : Int) < many))
    (fun m (pre : List Nat) W' => Below We311.heap.size We311 W' ∧ RowL W' gf4 3 [.int .i64 (pre.length : Int)] ∧ (many ≤ pre.length ∧ (pre.length = 1 ∨ (pre.length : Int) - 1 < many) ∧ 1 ≤ pre.length ∧ pre.length ≤ K))
    (fun W' => Below We311.heap.size We311 W' ∧ ∃ p : Nat, RowL W' gf4 3 [.int .i64 (p : Int)] ∧ ((p : Int) = (if (if 1 < many then many else 1) < (K : Int) then (if 1 < many then many else 1) else (K : Int))))
    (fun m m' s X Y hs ht hg => ⟨hs.1.trans (ht.below yB hs.1.size), ht.row hs.2.1 (.inl kn), hs.2.2⟩)
    (fun m m' s X Y hs ht hg => ⟨hs.1.trans (ht.below yB hs.1.size), ht.row hs.2.1 (.inl kn), hs.2.2⟩)
    ⟨qB, rf5, .inl rfl⟩ ?hIA ?hIxA
    (fun x _ => sl [(5, .pointer (some ⟨g5, 0, none⟩)), (6, .pointer (some ⟨g6, 0, none⟩)), (13, .pointer (some ⟨ge122, 0, none⟩)), (15, .pointer (some ⟨ge283, 0, none⟩)), (16, .pointer (some ⟨gf4, 0, none⟩)), (17, .int .i64 (x : Int))]) (fun _ _ _ => True) (fun x c => fun _ W W' row h hg hr => trivial) ?assign ?body ?after
  case hIA =>
    rintro m xs W' rfl ⟨h1, h2, h3⟩
    exact ⟨h1, _, h2, by rw [hK] at h3 ⊢; rcases h3 with h3 | h3 <;> split <;> split <;> omega⟩
  case hIxA =>
    rintro m pre W' hp ⟨h1, h2, h3⟩
    exact ⟨h1, pre.length, h2, by split <;> split <;> omega⟩
  case assign =>
    rintro l' m pre x W Kc hm ⟨h1, h2, h3⟩ hKc
    refine CC.region ?_
    refine LL.val (R.assign rfl rfl) rfl rfl rfl ?_
    refine LL.nil ?_
    exact EE.thenK fun a' F => hKc a' _ () (StaysZ.refl _ _ _) (Keeps.refl _ _) ⟨h1, h2, h3⟩ (F.keep _ ⟨rfl, rfl, rfl, rfl, rfl, rfl, trivial⟩) trivial
  case body =>
    rintro l' m pre x c W hm hl' hrl ⟨h1, hn, h3⟩ _ ⟨xs, hxs, tt, hp⟩
    rw [hxs] at hp
    have hget : L[pre.length]? = some x := by rw [← hp]; simp
    have hpk : pre.length < K := by rw [← hK]; exact (List.getElem?_eq_some_iff.1 hget).1
    have hxd : (pre ++ [x]).length = pre.length + 1 := by simp
    have ySz := h1.size
    obtain ⟨rk, rr, rw, rt, rd, bel⟩ := hV.lift h1
    obtain ⟨bv, ov, rfl, _, hc1⟩ := rd.one iEnc hget
    have c1 := hc1 _ rfl
    have st := StaysZ.refl Wf8.heap.size m W
    have kp := Keeps.refl (fun k => k = bkl) W
    have hbW : bkl < W.heap.size := by omega
    have hbn : bkl ≠ gf4 := by omega
    clear hc1 rd bel hl' hrl hp hm hget hxs
    by_cases hmany : many ≤ (pre.length : Int) + 1
    · refine CC.block ?_
      refine CC.seq ?_
      refine CC.seq ?_
      refine CC.region ?_
      refine LL.val (R.load rfl rfl (I.ld1 rfl (RowL.cell hn rfl))) rfl rfl rfl ?_
      refine LL.val (R.load rfl rfl (I.ld1 rfl (RowL.cell rw rfl))) rfl rfl rfl ?_
      refine LL.val (R.len rfl rfl rfl rfl) rfl rfl rfl ?_
      refine LL.val (R.geF rfl rfl rfl (by omega)) rfl rfl rfl ?_
      refine LL.val (R.move rfl rfl) rfl rfl rfl ?_
      refine LL.val (R.move rfl rfl) rfl rfl rfl ?_
      refine LL.val (R.load rfl rfl (I.ld1 rfl (RowL.cell rw rfl))) rfl rfl rfl ?_
      refine LL.val (R.load rfl rfl (I.ld1 rfl (RowL.cell hn rfl))) rfl rfl rfl ?_
      refine LL.val (R.index rfl rfl rfl (I.ixS1 rfl (by omega))) rfl rfl rfl ?_
      refine LL.val (R.load rfl rfl (I.ld1 rfl (by assumption))) rfl rfl rfl ?_
      refine LL.val (R.neF rfl rfl rfl (by omega)) rfl rfl rfl ?_
      refine LL.val (R.pick rfl rfl rfl) rfl rfl rfl ?_
      refine LL.nilS ?_
      refine CC.no rfl ?_
      refine CC.skip ?_
      refine EE.thenN ?_
      refine CC.seq ?_
      refine CC.region ?_
      refine LL.val (R.load rfl rfl (I.ld1 rfl (RowL.cell hn rfl))) rfl rfl rfl ?_
      refine LL.val (R.addNc rfl rfl rfl rfl (by omega)) rfl rfl rfl ?_
      refine LL.store rfl rfl rfl rfl hn (by exact Nat.le_of_ble_eq_true rfl) rfl rfl rfl rfl ?_
      intro Wh2 rh3 bh1 zh4
      have hlbh1 := hn.lt
      replace rh3 : RowL Wh2 _ 3 [Value.int IntKind.i64 ↑(pre.length + 1)] := rh3
      clear hn
      replace h1 := h1.grown bh1 h1.size (by rintro k ⟨⟩; omega)
      replace rk := rk.gr bh1 (by have := rk.lt; omega)
      replace rr := rr.gr bh1 (by have := rr.lt; omega)
      replace rt := rt.gr bh1 (by have := rt.lt; omega)
      replace rw := rw.gr bh1 (by have := rw.lt; omega)
      replace st := st.trans (StaysZ.of_grown bh1 (by omega))
      replace kp := kp.trans (Keeps.of_grown bh1 fun k hk => by (try simp only at hk); omega)
      have hn := rh3
      clear rh3
      refine LL.nilS ?_
      refine CC.seq ?_
      refine CC.region ?_
      refine LL.val (R.load rfl rfl (I.ld1 rfl (RowL.cell rt rfl))) rfl rfl rfl ?_
      refine LL.val (R.eqT rfl rfl rfl (by omega)) rfl rfl rfl ?_
      refine LL.val (R.move rfl rfl) rfl rfl rfl ?_
      refine LL.val (R.load rfl rfl (I.ld1 rfl (RowL.cell hn rfl))) rfl rfl rfl ?_
      refine LL.val (R.load rfl rfl (I.ld1 rfl (RowL.cell rk rfl))) rfl rfl rfl ?_
      refine LL.val (R.geT rfl rfl rfl (by omega)) rfl rfl rfl ?_
      refine LL.val (R.pick rfl rfl rfl) rfl rfl rfl ?_
      refine LL.nilS ?_
      refine CC.yes rfl ?_
      refine CC.exit ?_
      refine EE.inX' rfl ?_
      exact EE.roundXZ ⟨st, rfl, h1, by rw [hxd]; exact hn, by rw [hxd]; omega, by rw [hxd]; omega, by rw [hxd]; omega, by rw [hxd]; omega⟩
    · refine CC.block ?_
      refine CC.seq ?_
      refine CC.seq ?_
      refine CC.region ?_
      refine LL.val (R.load rfl rfl (I.ld1 rfl (RowL.cell hn rfl))) rfl rfl rfl ?_
      refine LL.val (R.load rfl rfl (I.ld1 rfl (RowL.cell rw rfl))) rfl rfl rfl ?_
      refine LL.val (R.len rfl rfl rfl rfl) rfl rfl rfl ?_
      refine LL.val (R.geF rfl rfl rfl (by omega)) rfl rfl rfl ?_
      refine LL.val (R.move rfl rfl) rfl rfl rfl ?_
      refine LL.val (R.move rfl rfl) rfl rfl rfl ?_
      refine LL.val (R.load rfl rfl (I.ld1 rfl (RowL.cell rw rfl))) rfl rfl rfl ?_
      refine LL.val (R.load rfl rfl (I.ld1 rfl (RowL.cell hn rfl))) rfl rfl rfl ?_
      refine LL.val (R.index rfl rfl rfl (I.ixS1 rfl (by omega))) rfl rfl rfl ?_
      refine LL.val (R.load rfl rfl (I.ld1 rfl (by assumption))) rfl rfl rfl ?_
      refine LL.val (R.neF rfl rfl rfl (by omega)) rfl rfl rfl ?_
      refine LL.val (R.pick rfl rfl rfl) rfl rfl rfl ?_
      refine LL.nilS ?_
      refine CC.no rfl ?_
      refine CC.skip ?_
      refine EE.thenN ?_
      refine CC.seq ?_
      refine CC.region ?_
      refine LL.val (R.load rfl rfl (I.ld1 rfl (RowL.cell hn rfl))) rfl rfl rfl ?_
      refine LL.val (R.addNc rfl rfl rfl rfl (by omega)) rfl rfl rfl ?_
      refine LL.store rfl rfl rfl rfl hn (by exact Nat.le_of_ble_eq_true rfl) rfl rfl rfl rfl ?_
      intro Wi2 ri3 bi1 zi4
      have hlbi1 := hn.lt
      replace ri3 : RowL Wi2 _ 3 [Value.int IntKind.i64 ↑(pre.length + 1)] := ri3
      clear hn
      replace h1 := h1.grown bi1 h1.size (by rintro k ⟨⟩; omega)
      replace rk := rk.gr bi1 (by have := rk.lt; omega)
      replace rr := rr.gr bi1 (by have := rr.lt; omega)
      replace rt := rt.gr bi1 (by have := rt.lt; omega)
      replace rw := rw.gr bi1 (by have := rw.lt; omega)
      replace st := st.trans (StaysZ.of_grown bi1 (by omega))
      replace kp := kp.trans (Keeps.of_grown bi1 fun k hk => by (try simp only at hk); omega)
      have hn := ri3
      clear ri3
      refine LL.nilS ?_
      refine CC.seq ?_
      refine CC.region ?_
      refine LL.val (R.load rfl rfl (I.ld1 rfl (RowL.cell rt rfl))) rfl rfl rfl ?_
      refine LL.val (R.eqT rfl rfl rfl (by omega)) rfl rfl rfl ?_
      refine LL.val (R.move rfl rfl) rfl rfl rfl ?_
      refine LL.val (R.load rfl rfl (I.ld1 rfl (RowL.cell hn rfl))) rfl rfl rfl ?_
      refine LL.val (R.load rfl rfl (I.ld1 rfl (RowL.cell rk rfl))) rfl rfl rfl ?_
      refine LL.val (R.geF rfl rfl rfl (by omega)) rfl rfl rfl ?_
      refine LL.val (R.pick rfl rfl rfl) rfl rfl rfl ?_
      refine LL.nilS ?_
      refine CC.no rfl ?_
      refine CC.skip ?_
      refine EE.inN ?_
      exact EE.roundNZ ⟨st, kp, h1, by rw [hxd]; exact hn, .inr (by rw [hxd]; omega)⟩
  case after =>
    rintro E0 W hE0 ⟨h1, p, hn, hcp⟩ hE01
    obtain ⟨rk, rr, rw, rt, rd, bel⟩ := hV.lift h1
    have yz := h1.size
    have eE0 := (Array.getElem?_eq_some_iff.1 hE01).1
    refine EE.thenN ?_
    refine CC.seq ?_
    refine CC.region ?_
    refine LL.val (R.load rfl rfl (I.ld1 rfl (RowL.cell rt rfl))) rfl rfl rfl ?_
    refine LL.val (R.eqT rfl rfl rfl (by omega)) rfl rfl rfl ?_
    refine LL.val (R.move rfl rfl) rfl rfl rfl ?_
    refine LL.val (R.load rfl rfl (I.ld1 rfl (RowL.cell hn rfl))) rfl rfl rfl ?_
    refine LL.val (R.load rfl rfl (I.ld1 rfl (RowL.cell rw rfl))) rfl rfl rfl ?_
    refine LL.val (R.len rfl rfl rfl rfl) rfl rfl rfl ?_
    refine LL.val (R.load rfl rfl (I.ld1 rfl (RowL.cell rk rfl))) rfl rfl rfl ?_
    refine LL.val (R.max rfl rfl) rfl rfl rfl ?_
    refine LL.val (R.min rfl rfl) rfl rfl rfl ?_
    refine LL.val (R.neF rfl rfl rfl (by omega)) rfl rfl rfl ?_
    refine LL.val (R.pick rfl rfl rfl) rfl rfl rfl ?_
    refine LL.val (R.move rfl rfl) rfl rfl rfl ?_
    refine LL.val (R.load rfl rfl (I.ld1 rfl (RowL.cell rt rfl))) rfl rfl rfl ?_
    refine LL.val (R.eqF rfl rfl rfl (by omega)) rfl rfl rfl ?_
    refine LL.val (R.move rfl rfl) rfl rfl rfl ?_
    refine LL.skip rfl rfl ?_
    refine LL.skip rfl rfl ?_
    refine LL.skip rfl rfl ?_
    refine LL.skip rfl rfl ?_
    refine LL.val (R.pick rfl rfl rfl) rfl rfl rfl ?_
    refine LL.val (R.pick rfl rfl rfl) rfl rfl rfl ?_
    refine LL.nilS ?_
    refine CC.no rfl ?_
    refine CC.skip ?_
    refine EE.inN ?_
    refine EE.thenN ?_
    refine CC.seq ?_
    refine CC.seq ?_
    refine CC.region ?_
    refine LL.val (R.load rfl rfl (I.ld1 rfl (RowL.cell rt rfl))) rfl rfl rfl ?_
    refine LL.nilS ?_
    refine CC.region ?_
    have lj1 := hn.lt
    have lj2 := (Array.getElem?_eq_some_iff.1 hE01).1
    have lj3 := rk.lt
    have lj4 := rr.lt
    have lj5 := rw.lt
    have lj6 := rt.lt
    refine LL.alloc ([Value.int IntKind.i64 0]) rfl rfl rfl rfl rfl ?_
    intro Wj8 gj9 egj9 rj10 zj11 bj7
    replace h1 := h1.trans (bj7.mono h1.size)
    replace hn := hn.up bj7
    replace hE01 := defer_up hE01 bj7
    replace rk := rk.up bj7
    replace rr := rr.up bj7
    replace rw := rw.up bj7
    replace rt := rt.up bj7
    replace rd := rd.up bj7
    replace bel := bel.trans (bj7.mono bel.size)
    refine LL.store rfl rfl rfl rfl rj10 (by exact Nat.le_of_ble_eq_true rfl) rfl rfl rfl rfl ?_
    intro Wj13 rj14 bj12 zj15
    have hlbj12 := rj10.lt
    replace rj14 : RowL Wj13 _ 3 [Value.int IntKind.i64 0] := rj14
    clear rj10
    replace bj7 := bj7.grown bj12 bj7.size (by rintro k ⟨⟩; omega)
    replace h1 := h1.grown bj12 h1.size (by rintro k ⟨⟩; omega)
    replace hn := hn.gr bj12 (by have := hn.lt; omega)
    replace hE01 := (bj12.block _ (Array.getElem?_eq_some_iff.1 hE01).1 (by simp; omega)).trans hE01
    replace rk := rk.gr bj12 (by have := rk.lt; omega)
    replace rr := rr.gr bj12 (by have := rr.lt; omega)
    replace rw := rw.gr bj12 (by have := rw.lt; omega)
    replace rt := rt.gr bj12 (by have := rt.lt; omega)
    replace bel := bel.grown bj12 bel.size (by rintro k ⟨⟩; omega)
    have rj10 := rj14
    clear rj14
    refine LL.nilS ?_
    refine CC.region ?_
    refine LL.val (R.load rfl rfl (I.ld1 rfl (RowL.cell rj10 rfl))) rfl rfl rfl ?_
    refine LL.val (R.addIz (z := 1) rfl rfl rfl (by decide) (by decide)) rfl rfl rfl ?_
    refine LL.store rfl rfl rfl rfl rj10 (by exact Nat.le_of_ble_eq_true rfl) rfl rfl rfl rfl ?_
    intro Wj17 rj18 bj16 zj19
    have hlbj16 := rj10.lt
    replace rj18 : RowL Wj17 _ 3 [Value.int IntKind.i64 1] := rj18
    clear rj10
    replace bj7 := bj7.grown bj16 bj7.size (by rintro k ⟨⟩; omega)
    replace h1 := h1.grown bj16 h1.size (by rintro k ⟨⟩; omega)
    replace hn := hn.gr bj16 (by have := hn.lt; omega)
    replace hE01 := (bj16.block _ (Array.getElem?_eq_some_iff.1 hE01).1 (by simp; omega)).trans hE01
    replace rk := rk.gr bj16 (by have := rk.lt; omega)
    replace rr := rr.gr bj16 (by have := rr.lt; omega)
    replace rw := rw.gr bj16 (by have := rw.lt; omega)
    replace rt := rt.gr bj16 (by have := rt.lt; omega)
    replace bel := bel.grown bj16 bel.size (by rintro k ⟨⟩; omega)
    have rj10 := rj18
    clear rj18
    refine LL.nil ?_
    refine EE.again ?_
    have rd := (hV.lift h1).rd
    have hV1 : LvO Wj17 w g5 g6 ge122 gj9 many (.slice av K cv) L 1 := ⟨rk, rr, rw, rj10, rd, bel⟩
    have hE0k : ∀ W', Below Wj17.heap.size Wj17 W' → W'.heap[E0]? = some (.deferred (some [])) := fun W' h => defer_up hE01 h
    have qA := h1
    have qB := Below.refl Wj17.heap.size Wj17
    have jsz := bel.size
    have jE := (Array.getElem?_eq_some_iff.1 hE01).1
    have jg9 : w.heap.size ≤ gj9 ∧ g6 < gj9 ∧ ge122 < gj9 := by omega
    clear h1 hn hcp rt rd rw bj7 bj12 bj16 kn hE01 yB rf5 bf2 bf7
    refine RN.keep [(5, .pointer (some ⟨g5, 0, none⟩)), (6, .pointer (some ⟨g6, 0, none⟩)), (13, .pointer (some ⟨ge122, 0, none⟩)), (14, .func (.func 66) #[] [Value.pointer (some ⟨bk, 0, none⟩)].toArray), (15, .pointer (some ⟨gj9, 0, none⟩))] ⟨rfl, rfl, rfl, rfl, rfl, trivial⟩ ?_
    refine RN.step ?_
    refine CC.seq ?_
    refine CC.seq ?_
    refine CC.region ?_
    refine LL.val (R.load rfl rfl (I.ld1 rfl (RowL.cell rj10 rfl))) rfl rfl rfl ?_
    refine LL.val (R.ltT rfl rfl rfl (by omega)) rfl rfl rfl ?_
    refine LL.nilS ?_
    refine CC.yes rfl ?_
    refine CC.skip ?_
    refine EE.thenN ?_
    refine CC.seq ?_
    refine CC.block ?_
    refine CC.seq ?_
    refine CC.region ?_
    have lk1 := rk.lt
    have lk2 := rr.lt
    have lk3 := rj10.lt
    refine LL.alloc ([Value.int IntKind.i64 0]) rfl rfl rfl rfl rfl ?_
    intro Wk5 gk6 egk6 rk7 zk8 bk4
    replace rk := rk.up bk4
    replace rr := rr.up bk4
    replace bel := bel.trans (bk4.mono bel.size)
    replace rj10 := rj10.up bk4
    replace qA := qA.trans (bk4.mono qA.size)
    replace qB := qB.trans (bk4.mono qB.size)
    refine LL.store rfl rfl rfl rfl rk7 (by exact Nat.le_of_ble_eq_true rfl) rfl rfl rfl rfl ?_
    intro Wk10 rk11 bk9 zk12
    have hlbk9 := rk7.lt
    replace rk11 : RowL Wk10 _ 3 [Value.int IntKind.i64 0] := rk11
    clear rk7
    replace bk4 := bk4.grown bk9 bk4.size (by rintro k ⟨⟩; omega)
    replace rk := rk.gr bk9 (by have := rk.lt; omega)
    replace rr := rr.gr bk9 (by have := rr.lt; omega)
    replace bel := bel.grown bk9 bel.size (by rintro k ⟨⟩; omega)
    replace rj10 := rj10.gr bk9 (by have := rj10.lt; omega)
    replace qA := qA.grown bk9 qA.size (by rintro k ⟨⟩; omega)
    replace qB := qB.grown bk9 qB.size (by rintro k ⟨⟩; omega)
    have rk7 := rk11
    clear rk11
    refine LL.nilS ?_
    refine CC.seq ?_
    refine CC.seq ?_
    refine CC.region ?_
    refine LL.val (R.move rfl rfl) rfl rfl rfl ?_
    refine LL.nilS ?_
    refine CC.block ?_
    have yB := qB.size
    have kn := rk7.lt
    clear rk rr rj10 bel
    refine CC.rangeZ (γ := Unit) (gf := 66) (lb := [Value.pointer (some ⟨bk, 0, none⟩)]) (encs := iE) rfl rfl hG qA (fun k hk => by (try simp only at hk); omega) (fun _ => rfl) rfl
      (fun m (pre : List Nat) W' => Below Wj17.heap.size Wj17 W' ∧ RowL W' gk6 3 [.int .i64 (pre.length : Int)] ∧ True)
      (fun m (pre : List Nat) W' => Below Wj17.heap.size Wj17 W' ∧ RowL W' gk6 3 [.int .i64 (pre.length : Int)] ∧ False)
      (fun W' => Below Wj17.heap.size Wj17 W' ∧ ∃ p : Nat, RowL W' gk6 3 [.int .i64 (p : Int)] ∧ ((p : Int) = K))
      (fun m m' s X Y hs ht hg => ⟨hs.1.trans (ht.below yB hs.1.size), ht.row hs.2.1 (.inl kn), hs.2.2⟩)
      (fun m m' s X Y hs ht hg => ⟨hs.1.trans (ht.below yB hs.1.size), ht.row hs.2.1 (.inl kn), hs.2.2⟩)
      ⟨qB, rk7, trivial⟩ ?hIA ?hIxA
      (fun x _ => sl [(5, .pointer (some ⟨g5, 0, none⟩)), (6, .pointer (some ⟨g6, 0, none⟩)), (13, .pointer (some ⟨ge122, 0, none⟩)), (15, .pointer (some ⟨gj9, 0, none⟩)), (16, .pointer (some ⟨gk6, 0, none⟩)), (17, .int .i64 (x : Int))]) (fun _ _ _ => True) (fun x c => fun _ W W' row h hg hr => trivial) ?assign ?body ?after
    case hIA =>
      rintro m xs W' hxs ⟨h1, h2, h3⟩
      rw [hxs, hK] at h2
      exact ⟨h1, _, h2, rfl⟩
    case hIxA =>
      rintro m pre W' hp ⟨h1, h2, h3⟩
      exact h3.elim
    case assign =>
      rintro l' m pre x W Kc hm ⟨h1, h2, h3⟩ hKc
      refine CC.region ?_
      refine LL.val (R.assign rfl rfl) rfl rfl rfl ?_
      refine LL.nil ?_
      exact EE.thenK fun a' F => hKc a' _ () (StaysZ.refl _ _ _) (Keeps.refl _ _) ⟨h1, h2, h3⟩ (F.keep _ ⟨rfl, rfl, rfl, rfl, rfl, rfl, trivial⟩) trivial
    case body =>
      rintro l' m pre x c W hm hl' hrl ⟨h1, hn, h3⟩ _ ⟨xs, hxs, tt, hp⟩
      rw [hxs] at hp
      have hget : L[pre.length]? = some x := by rw [← hp]; simp
      have hpk : pre.length < K := by rw [← hK]; exact (List.getElem?_eq_some_iff.1 hget).1
      have hxd : (pre ++ [x]).length = pre.length + 1 := by simp
      have ySz := h1.size
      obtain ⟨rk, rr, rw, rt, rd, bel⟩ := hV1.lift h1
      obtain ⟨bv, ov, rfl, _, hc1⟩ := rd.one iEnc hget
      have c1 := hc1 _ rfl
      have st := StaysZ.refl Wk10.heap.size m W
      have kp := Keeps.refl (fun k => k = bkl) W
      have hbW : bkl < W.heap.size := by omega
      have hbn : bkl ≠ gk6 := by omega
      clear hc1 rd bel hl' hrl hp hm hget hxs
      refine CC.block ?_
      refine CC.seq ?_
      refine CC.seq ?_
      refine CC.region ?_
      refine LL.val (R.load rfl rfl (I.ld1 rfl (RowL.cell hn rfl))) rfl rfl rfl ?_
      refine LL.val (R.load rfl rfl (I.ld1 rfl (RowL.cell rw rfl))) rfl rfl rfl ?_
      refine LL.val (R.len rfl rfl rfl rfl) rfl rfl rfl ?_
      refine LL.val (R.geF rfl rfl rfl (by omega)) rfl rfl rfl ?_
      refine LL.val (R.move rfl rfl) rfl rfl rfl ?_
      refine LL.val (R.move rfl rfl) rfl rfl rfl ?_
      refine LL.val (R.load rfl rfl (I.ld1 rfl (RowL.cell rw rfl))) rfl rfl rfl ?_
      refine LL.val (R.load rfl rfl (I.ld1 rfl (RowL.cell hn rfl))) rfl rfl rfl ?_
      refine LL.val (R.index rfl rfl rfl (I.ixS1 rfl (by omega))) rfl rfl rfl ?_
      refine LL.val (R.load rfl rfl (I.ld1 rfl (by assumption))) rfl rfl rfl ?_
      refine LL.val (R.neF rfl rfl rfl (by omega)) rfl rfl rfl ?_
      refine LL.val (R.pick rfl rfl rfl) rfl rfl rfl ?_
      refine LL.nilS ?_
      refine CC.no rfl ?_
      refine CC.skip ?_
      refine EE.thenN ?_
      refine CC.seq ?_
      refine CC.region ?_
      refine LL.val (R.load rfl rfl (I.ld1 rfl (RowL.cell hn rfl))) rfl rfl rfl ?_
      refine LL.val (R.addNc rfl rfl rfl rfl (by omega)) rfl rfl rfl ?_
      refine LL.store rfl rfl rfl rfl hn (by exact Nat.le_of_ble_eq_true rfl) rfl rfl rfl rfl ?_
      intro Wm2 rm3 bm1 zm4
      have hlbm1 := hn.lt
      replace rm3 : RowL Wm2 _ 3 [Value.int IntKind.i64 ↑(pre.length + 1)] := rm3
      clear hn
      replace h1 := h1.grown bm1 h1.size (by rintro k ⟨⟩; omega)
      replace rk := rk.gr bm1 (by have := rk.lt; omega)
      replace rr := rr.gr bm1 (by have := rr.lt; omega)
      replace rt := rt.gr bm1 (by have := rt.lt; omega)
      replace rw := rw.gr bm1 (by have := rw.lt; omega)
      replace st := st.trans (StaysZ.of_grown bm1 (by omega))
      replace kp := kp.trans (Keeps.of_grown bm1 fun k hk => by (try simp only at hk); omega)
      have hn := rm3
      clear rm3
      refine LL.nilS ?_
      refine CC.seq ?_
      refine CC.region ?_
      refine LL.val (R.load rfl rfl (I.ld1 rfl (RowL.cell rt rfl))) rfl rfl rfl ?_
      refine LL.val (R.eqF rfl rfl rfl (by omega)) rfl rfl rfl ?_
      refine LL.val (R.move rfl rfl) rfl rfl rfl ?_
      refine LL.skip rfl rfl ?_
      refine LL.skip rfl rfl ?_
      refine LL.skip rfl rfl ?_
      refine LL.val (R.pick rfl rfl rfl) rfl rfl rfl ?_
      refine LL.nilS ?_
      refine CC.no rfl ?_
      refine CC.skip ?_
      refine EE.inN ?_
      exact EE.roundNZ ⟨st, kp, h1, by rw [hxd]; exact hn, trivial⟩
    case after =>
      rintro E1 W hE1 ⟨h1, p, hn, hcp⟩ hE11
      obtain ⟨rk, rr, rw, rt, rd, q⟩ := hV1.lift h1
      have yz := h1.size
      have hE01 := hE0k _ h1
      have eE01 := (Array.getElem?_eq_some_iff.1 hE01).1
      have eE1 := (Array.getElem?_eq_some_iff.1 hE11).1
      clear rd
      refine EE.thenN ?_
      refine CC.seq ?_
      refine CC.region ?_
      refine LL.val (R.load rfl rfl (I.ld1 rfl (RowL.cell rt rfl))) rfl rfl rfl ?_
      refine LL.val (R.eqF rfl rfl rfl (by omega)) rfl rfl rfl ?_
      refine LL.val (R.move rfl rfl) rfl rfl rfl ?_
      refine LL.skip rfl rfl ?_
      refine LL.skip rfl rfl ?_
      refine LL.skip rfl rfl ?_
      refine LL.skip rfl rfl ?_
      refine LL.skip rfl rfl ?_
      refine LL.skip rfl rfl ?_
      refine LL.skip rfl rfl ?_
      refine LL.val (R.pick rfl rfl rfl) rfl rfl rfl ?_
      refine LL.val (R.move rfl rfl) rfl rfl rfl ?_
      refine LL.val (R.load rfl rfl (I.ld1 rfl (RowL.cell rt rfl))) rfl rfl rfl ?_
      refine LL.val (R.eqT rfl rfl rfl (by omega)) rfl rfl rfl ?_
      refine LL.val (R.move rfl rfl) rfl rfl rfl ?_
      refine LL.val (R.load rfl rfl (I.ld1 rfl (RowL.cell hn rfl))) rfl rfl rfl ?_
      refine LL.val (R.load rfl rfl (I.ld1 rfl (RowL.cell rw rfl))) rfl rfl rfl ?_
      refine LL.val (R.len rfl rfl rfl rfl) rfl rfl rfl ?_
      refine LL.val (R.neF rfl rfl rfl (by omega)) rfl rfl rfl ?_
      refine LL.val (R.pick rfl rfl rfl) rfl rfl rfl ?_
      refine LL.val (R.pick rfl rfl rfl) rfl rfl rfl ?_
      refine LL.nilS ?_
      refine CC.no rfl ?_
      refine CC.skip ?_
      refine EE.inN ?_
      refine EE.thenN ?_
      refine CC.seq ?_
      refine CC.seq ?_
      refine CC.region ?_
      refine LL.val (R.load rfl rfl (I.ld1 rfl (RowL.cell rt rfl))) rfl rfl rfl ?_
      refine LL.nilS ?_
      refine CC.region ?_
      have ln1 := hn.lt
      have ln2 := (Array.getElem?_eq_some_iff.1 hE11).1
      have ln3 := rk.lt
      have ln4 := rr.lt
      have ln5 := rw.lt
      have ln6 := rt.lt
      have ln7 := (Array.getElem?_eq_some_iff.1 hE01).1
      refine LL.alloc ([Value.int IntKind.i64 0]) rfl rfl rfl rfl rfl ?_
      intro Wn9 gn10 egn10 rn11 zn12 bn8
      replace h1 := h1.trans (bn8.mono h1.size)
      replace hn := hn.up bn8
      replace hE11 := defer_up hE11 bn8
      replace rk := rk.up bn8
      replace rr := rr.up bn8
      replace rw := rw.up bn8
      replace rt := rt.up bn8
      replace q := q.trans (bn8.mono q.size)
      replace hE01 := defer_up hE01 bn8
      refine LL.store rfl rfl rfl rfl rn11 (by exact Nat.le_of_ble_eq_true rfl) rfl rfl rfl rfl ?_
      intro Wn14 rn15 bn13 zn16
      have hlbn13 := rn11.lt
      replace rn15 : RowL Wn14 _ 3 [Value.int IntKind.i64 1] := rn15
      clear rn11
      replace bn8 := bn8.grown bn13 bn8.size (by rintro k ⟨⟩; omega)
      replace h1 := h1.grown bn13 h1.size (by rintro k ⟨⟩; omega)
      replace hn := hn.gr bn13 (by have := hn.lt; omega)
      replace hE11 := (bn13.block _ (Array.getElem?_eq_some_iff.1 hE11).1 (by simp; omega)).trans hE11
      replace rk := rk.gr bn13 (by have := rk.lt; omega)
      replace rr := rr.gr bn13 (by have := rr.lt; omega)
      replace rw := rw.gr bn13 (by have := rw.lt; omega)
      replace rt := rt.gr bn13 (by have := rt.lt; omega)
      replace q := q.grown bn13 q.size (by rintro k ⟨⟩; omega)
      replace hE01 := (bn13.block _ (Array.getElem?_eq_some_iff.1 hE01).1 (by simp; omega)).trans hE01
      have rn11 := rn15
      clear rn15
      refine LL.nilS ?_
      refine CC.region ?_
      refine LL.val (R.load rfl rfl (I.ld1 rfl (RowL.cell rn11 rfl))) rfl rfl rfl ?_
      refine LL.val (R.addIz (z := 2) rfl rfl rfl (by decide) (by decide)) rfl rfl rfl ?_
      refine LL.store rfl rfl rfl rfl rn11 (by exact Nat.le_of_ble_eq_true rfl) rfl rfl rfl rfl ?_
      intro Wn18 rn19 bn17 zn20
      have hlbn17 := rn11.lt
      replace rn19 : RowL Wn18 _ 3 [Value.int IntKind.i64 2] := rn19
      clear rn11
      replace bn8 := bn8.grown bn17 bn8.size (by rintro k ⟨⟩; omega)
      replace h1 := h1.grown bn17 h1.size (by rintro k ⟨⟩; omega)
      replace hn := hn.gr bn17 (by have := hn.lt; omega)
      replace hE11 := (bn17.block _ (Array.getElem?_eq_some_iff.1 hE11).1 (by simp; omega)).trans hE11
      replace rk := rk.gr bn17 (by have := rk.lt; omega)
      replace rr := rr.gr bn17 (by have := rr.lt; omega)
      replace rw := rw.gr bn17 (by have := rw.lt; omega)
      replace rt := rt.gr bn17 (by have := rt.lt; omega)
      replace q := q.grown bn17 q.size (by rintro k ⟨⟩; omega)
      replace hE01 := (bn17.block _ (Array.getElem?_eq_some_iff.1 hE01).1 (by simp; omega)).trans hE01
      have rn11 := rn19
      clear rn19
      refine LL.nil ?_
      refine EE.again ?_
      refine RN.step ?_
      refine CC.seq ?_
      refine CC.seq ?_
      refine CC.region ?_
      refine LL.val (R.load rfl rfl (I.ld1 rfl (RowL.cell rn11 rfl))) rfl rfl rfl ?_
      refine LL.val (R.ltF rfl rfl rfl (by omega)) rfl rfl rfl ?_
      refine LL.nilS ?_
      refine CC.no rfl ?_
      refine CC.exit ?_
      refine EE.thenX ?_
      refine EE.thenX ?_
      refine EE.inX ?_
      refine EE.thenN ?_
      refine CC.seq ?_
      refine CC.region ?_
      refine LL.call (R.call rfl rfl rfl) rfl rfl rfl (works_any _) ?_
      rintro e Wn22 ⟨rfl, bn21⟩
      refine ⟨_, rfl, ?_⟩
      have zbn21 := bn21.size
      replace bn8 := bn8.trans (bn21.mono bn8.size)
      replace h1 := h1.trans (bn21.mono h1.size)
      replace hn := hn.up bn21
      replace hE11 := defer_up hE11 bn21
      replace rk := rk.up bn21
      replace rr := rr.up bn21
      replace rw := rw.up bn21
      replace rt := rt.up bn21
      replace q := q.trans (bn21.mono q.size)
      replace hE01 := defer_up hE01 bn21
      replace rn11 := rn11.up bn21
      refine LL.store rfl rfl rfl rfl rr (by exact Nat.le_of_ble_eq_true rfl) rfl rfl rfl rfl ?_
      intro Wn25 rn26 bn24 zn27
      have hlbn24 := rr.lt
      replace rn26 : RowL Wn25 _ 4 [Value.bool true] := rn26
      clear rr
      replace hn := hn.gr bn24 (by have := hn.lt; omega)
      replace hE11 := (bn24.block _ (Array.getElem?_eq_some_iff.1 hE11).1 (by simp; omega)).trans hE11
      replace rk := rk.gr bn24 (by have := rk.lt; omega)
      replace rw := rw.gr bn24 (by have := rw.lt; omega)
      replace rt := rt.gr bn24 (by have := rt.lt; omega)
      replace q := q.grown bn24 q.size (by rintro k ⟨⟩; omega)
      replace hE01 := (bn24.block _ (Array.getElem?_eq_some_iff.1 hE01).1 (by simp; omega)).trans hE01
      replace rn11 := rn11.gr bn24 (by have := rn11.lt; omega)
      have rr := rn26
      clear rn26
      refine LL.nilS ?_
      refine CC.ret ?_
      have hE9 : g6 ≠ E1 := by omega
      refine EE.retNN hE01 hE11 (by omega) rfl ⟨_, rfl, lv1 rfl ((taken_up (taken_up rr hE9) (by omega)).cell rfl)⟩ ?_
      exact ⟨rfl, taken_bel (taken_bel q (by omega) (Nat.le_refl _)) (by omega) (Nat.le_refl _)⟩
end Go.Proofs.Ytajfffoaebjnlaa
