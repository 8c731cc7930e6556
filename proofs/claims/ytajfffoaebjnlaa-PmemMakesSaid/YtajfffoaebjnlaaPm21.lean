/- PmemPlays: the walk. -/
import Derived.Test.YtajfffoaebjnlaaPm20
namespace Go.Proofs.Ytajfffoaebjnlaa
set_option linter.unusedVariables false
set_option linter.unusedSimpArgs false
open Go.RowKit Go.Shelf
def actE (x : Int × Int × Int) : List Value := [.int .i64 x.1, .int .i64 x.2.1, .int .u64 x.2.2]
theorem actEnc : Enc actE 3 := ⟨fun _ => rfl, fun a u hu => by
  simp only [actE, List.mem_cons, List.not_mem_nil, or_false] at hu
  rcases hu with rfl | rfl | rfl <;> rfl, by decide⟩
/-- Where a play stands. -/
structure PSt where
  i : Nat
  s : List Cl
  g : Nat
  cap : Nat
  m : Nat
  gn : Nat
  gl : Nat
  qb : Nat
def PSt.I (w : World) (N n : Nat) (t : PSt) (W : World) : Prop := t.i ≤ n ∧ Below w.heap.size w W ∧ Mem W t.m t.gn t.gl t.qb N t.s ∧ ReadsT cE 25 W (.slice (some ⟨t.g, 0, none⟩) N t.cap) t.s ∧ (t.g ≠ t.gn ∧ t.g ≠ t.gl ∧ t.g ≠ t.qb ∧ t.g < W.heap.size) ∧ w.heap.size ≤ t.m ∧ w.heap.size ≤ t.gn ∧ w.heap.size ≤ t.gl ∧ w.heap.size ≤ t.qb ∧ w.heap.size ≤ t.g
set_option maxRecDepth 100000
set_option maxHeartbeats 8000000
theorem plays_walk (v0 v1 : Value) (ws : List Nat) (xs : List (Int × Int × Int)) (w : World) (hv : ReadsT uE 1 w v0 ws) (hs : ReadsT actE 3 w v1 xs) (hx : ∀ x ∈ xs, 0 ≤ x.2.2) (hL : ws.length ≤ 9223372036854775807) (hn : xs.length ≤ 9223372036854775807) : Calls Try.prog 3 #[v0, v1] w fun e w' => e = .returned (.bool true) ∧ Below w.heap.size w w' := by
  have q := Below.refl w.heap.size w
  obtain ⟨a0, c0, rfl, _⟩ := hv.form rfl
  obtain ⟨a1, c1, rfl, _⟩ := hs.form rfl
  obtain ⟨L, eL⟩ : ∃ L, ws.length = L := ⟨_, rfl⟩
  obtain ⟨n, en⟩ : ∃ n, xs.length = n := ⟨_, rfl⟩
  rw [eL] at hv hL ⊢
  rw [en] at hs hn ⊢
  have hvF : ∀ W, Below w.heap.size w W → ReadsT uE 1 W (.slice a0 L c0) ws := fun W b => hv.up b
  have hsF : ∀ W, Below w.heap.size w W → ReadsT actE 3 W (.slice a1 n c1) xs := fun W b => hs.up b
  clear hv hs
  by_cases h64 : L ≤ 64
  case neg =>
    refine X.fn Try.func3 rfl (n := 76) rfl rfl ?_
    refine CC.seq ?_
    refine CC.region ?_
    refine LL.val (R.assign rfl rfl) rfl rfl rfl ?_
    refine LL.nilS ?_
    refine CC.seq ?_
    refine CC.seq ?_
    refine CC.region ?_
    refine LL.val (R.move rfl rfl) rfl rfl rfl ?_
    refine LL.val (R.len rfl rfl rfl rfl) rfl rfl rfl ?_
    refine LL.val (R.gtT rfl rfl rfl (by omega)) rfl rfl rfl ?_
    refine LL.val (R.move rfl rfl) rfl rfl rfl ?_
    refine LL.skip rfl rfl ?_
    refine LL.skip rfl rfl ?_
    refine LL.skip rfl rfl ?_
    refine LL.skip rfl rfl ?_
    refine LL.val (R.pick rfl rfl rfl) rfl rfl rfl ?_
    refine LL.val (R.move rfl rfl) rfl rfl rfl ?_
    refine LL.skip rfl rfl ?_
    refine LL.skip rfl rfl ?_
    refine LL.skip rfl rfl ?_
    refine LL.val (R.pick rfl rfl rfl) rfl rfl rfl ?_
    refine LL.nilS ?_
    refine CC.yes rfl ?_
    refine CC.seq ?_
    refine CC.region ?_
    refine LL.call (R.call rfl rfl rfl) rfl rfl rfl (works_any _) ?_
    rintro e W2 ⟨rfl, b1⟩
    refine ⟨_, rfl, ?_⟩
    have zb1 := b1.size
    replace q := q.trans (b1.mono q.size)
    refine LL.val (R.assign rfl rfl) rfl rfl rfl ?_
    refine LL.nilS ?_
    refine CC.ret ?_
    refine EE.thenR ?_
    refine EE.ret _ rfl rfl ?_
    exact ⟨rfl, q⟩
  by_cases h8 : 8 ≤ L ∧ L % 8 = 0
  case neg =>
    have hr : (L : Int) < 8 ∨ 131072 < (L : Int) ∨ (L : Int) % 8 ≠ 0 := by omega
    clear h8
    refine X.fn Try.func3 rfl (n := 76) rfl rfl ?_
    refine CC.seq ?_
    refine CC.region ?_
    refine LL.val (R.assign rfl rfl) rfl rfl rfl ?_
    refine LL.nilS ?_
    refine CC.seq ?_
    refine CC.seq ?_
    refine CC.region ?_
    refine LL.val (R.move rfl rfl) rfl rfl rfl ?_
    refine LL.val (R.len rfl rfl rfl rfl) rfl rfl rfl ?_
    refine LL.val (R.gtF rfl rfl rfl (by omega)) rfl rfl rfl ?_
    refine LL.val (R.move rfl rfl) rfl rfl rfl ?_
    refine LL.val (R.move rfl rfl) rfl rfl rfl ?_
    refine LL.val (R.len rfl rfl rfl rfl) rfl rfl rfl ?_
    refine LL.call (R.call rfl rfl rfl) rfl rfl rfl (right_F _ _ (by first | assumption | omega)) ?_
    rintro e W' ⟨rfl, rfl⟩
    refine ⟨_, rfl, ?_⟩
    refine LL.val (R.not rfl rfl) rfl rfl rfl ?_
    refine LL.val (R.pick rfl rfl rfl) rfl rfl rfl ?_
    refine LL.val (R.move rfl rfl) rfl rfl rfl ?_
    refine LL.skip rfl rfl ?_
    refine LL.skip rfl rfl ?_
    refine LL.skip rfl rfl ?_
    refine LL.val (R.pick rfl rfl rfl) rfl rfl rfl ?_
    refine LL.nilS ?_
    refine CC.yes rfl ?_
    refine CC.seq ?_
    refine CC.region ?_
    refine LL.call (R.call rfl rfl rfl) rfl rfl rfl (works_any _) ?_
    rintro e Wa2 ⟨rfl, ba1⟩
    refine ⟨_, rfl, ?_⟩
    have zba1 := ba1.size
    replace q := q.trans (ba1.mono q.size)
    refine LL.val (R.assign rfl rfl) rfl rfl rfl ?_
    refine LL.nilS ?_
    refine CC.ret ?_
    refine EE.thenR ?_
    refine EE.ret _ rfl rfl ?_
    exact ⟨rfl, q⟩
  obtain ⟨N, rfl⟩ : ∃ N, L = N * 8 := ⟨L / 8, by omega⟩
  have h0 : 0 < N := by omega
  have hN : N ≤ 16384 := by omega
  clear h8
  by_cases h60 : n ≤ 60
  case neg =>
    refine X.fn Try.func3 rfl (n := 76) rfl rfl ?_
    refine CC.seq ?_
    refine CC.region ?_
    refine LL.val (R.assign rfl rfl) rfl rfl rfl ?_
    refine LL.nilS ?_
    refine CC.seq ?_
    refine CC.seq ?_
    refine CC.region ?_
    refine LL.val (R.move rfl rfl) rfl rfl rfl ?_
    refine LL.val (R.len rfl rfl rfl rfl) rfl rfl rfl ?_
    refine LL.val (R.gtF rfl rfl rfl (by omega)) rfl rfl rfl ?_
    refine LL.val (R.move rfl rfl) rfl rfl rfl ?_
    refine LL.val (R.move rfl rfl) rfl rfl rfl ?_
    refine LL.val (R.len rfl rfl rfl rfl) rfl rfl rfl ?_
    refine LL.call (R.call rfl rfl rfl) rfl rfl rfl (right_T _ _ (by first | assumption | omega)) ?_
    rintro e W' ⟨rfl, rfl⟩
    refine ⟨_, rfl, ?_⟩
    refine LL.val (R.not rfl rfl) rfl rfl rfl ?_
    refine LL.val (R.pick rfl rfl rfl) rfl rfl rfl ?_
    refine LL.val (R.move rfl rfl) rfl rfl rfl ?_
    refine LL.val (R.move rfl rfl) rfl rfl rfl ?_
    refine LL.val (R.len rfl rfl rfl rfl) rfl rfl rfl ?_
    refine LL.val (R.gtT rfl rfl rfl (by omega)) rfl rfl rfl ?_
    refine LL.val (R.pick rfl rfl rfl) rfl rfl rfl ?_
    refine LL.nilS ?_
    refine CC.yes rfl ?_
    refine CC.seq ?_
    refine CC.region ?_
    refine LL.call (R.call rfl rfl rfl) rfl rfl rfl (works_any _) ?_
    rintro e Wb2 ⟨rfl, bb1⟩
    refine ⟨_, rfl, ?_⟩
    have zbb1 := bb1.size
    replace q := q.trans (bb1.mono q.size)
    refine LL.val (R.assign rfl rfl) rfl rfl rfl ?_
    refine LL.nilS ?_
    refine CC.ret ?_
    refine EE.thenR ?_
    refine EE.ret _ rfl rfl ?_
    exact ⟨rfl, q⟩
  refine X.fn Try.func3 rfl (n := 76) rfl rfl ?_
  refine CC.seq ?_
  refine CC.region ?_
  refine LL.val (R.assign rfl rfl) rfl rfl rfl ?_
  refine LL.nilS ?_
  refine CC.seq ?_
  refine CC.seq ?_
  refine CC.region ?_
  refine LL.val (R.move rfl rfl) rfl rfl rfl ?_
  refine LL.val (R.len rfl rfl rfl rfl) rfl rfl rfl ?_
  refine LL.val (R.gtF rfl rfl rfl (by omega)) rfl rfl rfl ?_
  refine LL.val (R.move rfl rfl) rfl rfl rfl ?_
  refine LL.val (R.move rfl rfl) rfl rfl rfl ?_
  refine LL.val (R.len rfl rfl rfl rfl) rfl rfl rfl ?_
  refine LL.call (R.call rfl rfl rfl) rfl rfl rfl (right_T _ _ (by first | assumption | omega)) ?_
  rintro e W' ⟨rfl, rfl⟩
  refine ⟨_, rfl, ?_⟩
  refine LL.val (R.not rfl rfl) rfl rfl rfl ?_
  refine LL.val (R.pick rfl rfl rfl) rfl rfl rfl ?_
  refine LL.val (R.move rfl rfl) rfl rfl rfl ?_
  refine LL.val (R.move rfl rfl) rfl rfl rfl ?_
  refine LL.val (R.len rfl rfl rfl rfl) rfl rfl rfl ?_
  refine LL.val (R.gtF rfl rfl rfl (by omega)) rfl rfl rfl ?_
  refine LL.val (R.pick rfl rfl rfl) rfl rfl rfl ?_
  refine LL.nilS ?_
  refine CC.no rfl ?_
  refine CC.skip ?_
  refine EE.thenN ?_
  refine CC.seq ?_
  refine CC.region ?_
  refine LL.val (R.move rfl rfl) rfl rfl rfl ?_
  (refine LL.call (R.call rfl rfl rfl) rfl rfl rfl (of_T a0 (N * 8) c0 N ws _ (hvF _ q) rfl h0 hN) ?_; rintro e Wc340 ⟨m, gn, gl, qb, rfl, M, lm, ln, ll, lq, bc337⟩; refine ⟨_, rfl, ?_⟩; have lts := M.lts)
  have zbc337 := bc337.size
  replace q := q.trans (bc337.mono q.size)
  refine LL.val (R.move rfl rfl) rfl rfl rfl ?_
  refine LL.val (R.extract rfl rfl rfl) rfl rfl rfl ?_
  refine LL.val (R.extract rfl rfl rfl) rfl rfl rfl ?_
  refine LL.val (R.assign rfl rfl) rfl rfl rfl ?_
  refine LL.val (R.assign rfl rfl) rfl rfl rfl ?_
  refine LL.nilS ?_
  refine CC.seq ?_
  refine CC.region ?_
  refine LL.val (R.move rfl rfl) rfl rfl rfl ?_
  (refine LL.call (R.call rfl rfl rfl) rfl rfl rfl (dof_any a0 (N * 8) c0 N ws _ (hvF _ q) rfl h0 hN) ?_; rintro e Wc480 ⟨g, cap, rfl, hd, lg, lg2, bc477⟩; refine ⟨_, rfl, ?_⟩)
  have zbc477 := bc477.size
  replace M := M.up bc477
  replace bc337 := bc337.trans (bc477.mono bc337.size)
  replace q := q.trans (bc477.mono q.size)
  refine LL.val (R.assign rfl rfl) rfl rfl rfl ?_
  refine LL.nilS ?_
  refine CC.seq ?_
  refine CC.seq ?_
  refine CC.region ?_
  refine LL.val (R.move rfl rfl) rfl rfl rfl ?_
  refine LL.call (R.call rfl rfl rfl) rfl rfl rfl (num_any _ _) ?_
  rintro e W' ⟨rfl, rfl⟩
  refine ⟨_, rfl, ?_⟩
  refine LL.val (R.neF rfl rfl rfl (by omega)) rfl rfl rfl ?_
  refine LL.val (R.move rfl rfl) rfl rfl rfl ?_
  refine LL.val (R.move rfl rfl) rfl rfl rfl ?_
  refine LL.val (R.move rfl rfl) rfl rfl rfl ?_
  (refine LL.call (R.call rfl rfl rfl) rfl rfl rfl (is_any m gn gl qb N g cap _ M hd) ?_; rintro e Wc648 ⟨rfl, bc645⟩; refine ⟨_, rfl, ?_⟩)
  have zbc645 := bc645.size
  replace hd := hd.up bc645
  replace bc477 := bc477.trans (bc645.mono bc477.size)
  replace M := M.up bc645
  replace bc337 := bc337.trans (bc645.mono bc337.size)
  replace q := q.trans (bc645.mono q.size)
  refine LL.val (R.not rfl rfl) rfl rfl rfl ?_
  refine LL.val (R.pick rfl rfl rfl) rfl rfl rfl ?_
  refine LL.nilS ?_
  refine CC.no rfl ?_
  refine CC.skip ?_
  refine EE.thenN ?_
  refine CC.seq ?_
  refine CC.seq ?_
  refine CC.region ?_
  refine LL.val (R.assign rfl rfl) rfl rfl rfl ?_
  refine LL.nilS ?_
  refine CC.block ?_
  have yq := q.size
  refine CC.loop (α := PSt) (fun t => [(0, .slice a0 (N * 8) c0), (1, .slice a1 n c1), (5, .pointer (some ⟨t.m, 0, none⟩)), (7, .slice (some ⟨t.g, 0, none⟩) N t.cap), (8, .int .i64 (t.i : Int))]) (PSt.I w N n) (fun t => n - t.i) ⟨0, ofS N ws, g, cap, m, gn, gl, qb⟩ ⟨rfl, rfl, rfl, rfl, rfl, trivial⟩ ⟨Nat.zero_le _, q, M, hd, ⟨by show g ≠ gn; omega, by show g ≠ gl; omega, by show g ≠ qb; omega, by show g < _; omega⟩, lm, ln, ll, lq, by show w.heap.size ≤ g; omega⟩ ?_
  clear q M hd
  rintro ⟨i, s, g, cap, m, gn, gl, qb⟩ W ⟨hi, q, M, hd, hg, lm, ln, ll, lq, lg⟩
  simp only at hi M hd hg lm ln ll lq lg
  show CC none Try.prog _ 76 [] (sl [(0, .slice a0 (N * 8) c0), (1, .slice a1 n c1), (5, .pointer (some ⟨m, 0, none⟩)), (7, .slice (some ⟨g, 0, none⟩) N cap), (8, .int .i64 (i : Int))]) _ W
  have yw := q.size
  by_cases hlt : i < n
  case neg =>
    clear M hd
    refine CC.seq ?_
    refine CC.seq ?_
    refine CC.region ?_
    refine LL.val (R.move rfl rfl) rfl rfl rfl ?_
    refine LL.val (R.move rfl rfl) rfl rfl rfl ?_
    refine LL.val (R.len rfl rfl rfl rfl) rfl rfl rfl ?_
    refine LL.val (R.ltF rfl rfl rfl (by omega)) rfl rfl rfl ?_
    refine LL.nilS ?_
    refine CC.no rfl ?_
    refine CC.exit ?_
    refine EE.thenX ?_
    refine EE.thenX ?_
    refine EE.inX ?_
    refine EE.thenN ?_
    refine CC.seq ?_
    refine CC.region ?_
    refine LL.call (R.call rfl rfl rfl) rfl rfl rfl (works_any _) ?_
    rintro e Wd2 ⟨rfl, bd1⟩
    refine ⟨_, rfl, ?_⟩
    have zbd1 := bd1.size
    replace q := q.trans (bd1.mono q.size)
    refine LL.val (R.assign rfl rfl) rfl rfl rfl ?_
    refine LL.nilS ?_
    refine CC.ret ?_
    refine EE.ret _ rfl rfl ?_
    exact ⟨rfl, q⟩
  obtain ⟨⟨a, b, v⟩, hget⟩ : ∃ x, xs[i]? = some x := ⟨_, List.getElem?_eq_getElem (by omega)⟩
  have hv0 := hx _ (List.mem_of_getElem? hget)
  simp only at hv0
  obtain ⟨v, rfl⟩ : ∃ v' : Nat, v = (v' : Int) := ⟨v.toNat, by omega⟩
  obtain ⟨bs, os, rfl, lbs, _⟩ := (hsF w (Below.refl _ _)).get actEnc hget
  have m1 : CellsN W ⟨bs, os + i * 3, none⟩ 3 [.int .i64 a, .int .i64 b, .int .u64 (v : Int)] := (hsF W q).elemN actEnc hget
  have ca : W.cell? ⟨bs, os + i * 3 + 0, none⟩ = some (.int .i64 a) := m1.cell rfl
  by_cases a5 : a = 5
  · subst a5
    refine CC.seq ?_
    refine CC.seq ?_
    refine CC.region ?_
    refine LL.val (R.move rfl rfl) rfl rfl rfl ?_
    refine LL.val (R.move rfl rfl) rfl rfl rfl ?_
    refine LL.val (R.len rfl rfl rfl rfl) rfl rfl rfl ?_
    refine LL.val (R.ltT rfl rfl rfl (by omega)) rfl rfl rfl ?_
    refine LL.nilS ?_
    refine CC.yes rfl ?_
    refine CC.skip ?_
    refine EE.thenN ?_
    refine CC.seq ?_
    refine CC.block ?_
    refine CC.seq ?_
    refine CC.region ?_
    refine LL.val (R.move rfl rfl) rfl rfl rfl ?_
    refine LL.val (R.move rfl rfl) rfl rfl rfl ?_
    refine LL.val (R.move rfl rfl) rfl rfl rfl ?_
    refine LL.val (R.move rfl rfl) rfl rfl rfl ?_
    refine LL.val (R.index rfl rfl rfl (I.ixS rfl (by omega))) rfl rfl rfl ?_
    refine LL.val (R.load rfl rfl (I.ldM (by assumption) rfl rfl)) rfl rfl rfl ?_
    (refine LL.call (R.call rfl rfl rfl) rfl rfl rfl (act_any m gn gl qb N g cap _ b v _ M hd hg) ?_; rintro e We214 ⟨s2, g2, cap2, rfl, M2, hd2, hg2, hg3, te213⟩; refine ⟨_, rfl, ?_⟩; have lts := M.lts; clear M hd m1; have M := M2; have hd := hd2; clear M2 hd2)
    have zte213 := te213.size
    replace q := te213.onB q (fun j hj => ⟨by have := q.size; omega, by omega⟩)
    replace ca := cell_kept ca te213 ⟨World.block_lt_of_cell? _ _ ca, by omega⟩
    refine LL.val (R.move rfl rfl) rfl rfl rfl ?_
    refine LL.val (R.extract rfl rfl rfl) rfl rfl rfl ?_
    refine LL.val (R.extract rfl rfl rfl) rfl rfl rfl ?_
    refine LL.val (R.assign rfl rfl) rfl rfl rfl ?_
    refine LL.val (R.assign rfl rfl) rfl rfl rfl ?_
    refine LL.nilS ?_
    refine CC.seq ?_
    refine CC.region ?_
    refine LL.val (R.move rfl rfl) rfl rfl rfl ?_
    refine LL.val (R.assign rfl rfl) rfl rfl rfl ?_
    refine LL.nilS ?_
    refine CC.seq ?_
    refine CC.seq ?_
    refine CC.region ?_
    refine LL.val (R.move rfl rfl) rfl rfl rfl ?_
    refine LL.val (R.not rfl rfl) rfl rfl rfl ?_
    refine LL.val (R.move rfl rfl) rfl rfl rfl ?_
    refine LL.val (R.move rfl rfl) rfl rfl rfl ?_
    refine LL.val (R.move rfl rfl) rfl rfl rfl ?_
    (refine LL.call (R.call rfl rfl rfl) rfl rfl rfl (is_any m gn gl qb N g2 cap2 _ M hd) ?_; rintro e We480 ⟨rfl, be477⟩; refine ⟨_, rfl, ?_⟩)
    have zbe477 := be477.size
    replace M := M.up be477
    replace hd := hd.up be477
    replace q := q.trans (be477.mono q.size)
    replace ca := cell_up ca be477
    refine LL.val (R.not rfl rfl) rfl rfl rfl ?_
    refine LL.val (R.pick rfl rfl rfl) rfl rfl rfl ?_
    refine LL.nilS ?_
    refine CC.no rfl ?_
    refine CC.skip ?_
    refine EE.thenN ?_
    refine CC.seq ?_
    refine CC.region ?_
    refine LL.val (R.move rfl rfl) rfl rfl rfl ?_
    refine LL.val (R.move rfl rfl) rfl rfl rfl ?_
    refine LL.val (R.index rfl rfl rfl (I.ixS rfl (by omega))) rfl rfl rfl ?_
    refine LL.val (R.field rfl rfl (I.fld rfl)) rfl rfl rfl ?_
    refine LL.val (R.load rfl rfl (I.ld1 rfl (by assumption))) rfl rfl rfl ?_
    refine LL.val (R.eqT rfl rfl rfl (by omega)) rfl rfl rfl ?_
    refine LL.nilS ?_
    refine CC.yes rfl ?_
    refine CC.region ?_
    refine LL.val (R.move rfl rfl) rfl rfl rfl ?_
    (refine LL.call (R.call rfl rfl rfl) rfl rfl rfl (copy_any _ m gn gl qb N M) ?_; rintro e We690 ⟨m3, gn3, gl3, qb3, rfl, M3, lm3, ln3, ll3, lq3, be687⟩; refine ⟨_, rfl, ?_⟩)
    have zbe687 := be687.size
    replace be477 := be477.trans (be687.mono be477.size)
    replace M := M.up be687
    replace hd := hd.up be687
    replace q := q.trans (be687.mono q.size)
    replace ca := cell_up ca be687
    refine LL.val (R.assign rfl rfl) rfl rfl rfl ?_
    refine LL.nil ?_
    refine EE.inN ?_
    refine EE.thenN ?_
    refine CC.region ?_
    refine LL.val (R.move rfl rfl) rfl rfl rfl ?_
    refine LL.val (R.addNc rfl rfl rfl rfl (by omega)) rfl rfl rfl ?_
    refine LL.val (R.assign rfl rfl) rfl rfl rfl ?_
    refine LL.nil ?_
    exact EE.round ⟨i + 1, s2, g2, cap2, m3, gn3, gl3, qb3⟩ ⟨rfl, rfl, rfl, rfl, rfl, trivial⟩ ⟨by show i + 1 ≤ n; omega, q, M3, hd, ⟨by show g2 ≠ gn3; omega, by show g2 ≠ gl3; omega, by show g2 ≠ qb3; omega, by show g2 < _; omega⟩, by show _ ≤ m3; omega, by show _ ≤ gn3; omega, by show _ ≤ gl3; omega, by show _ ≤ qb3; omega, by show _ ≤ g2; omega⟩ (by show n - (i + 1) < n - i; omega)
  · refine CC.seq ?_
    refine CC.seq ?_
    refine CC.region ?_
    refine LL.val (R.move rfl rfl) rfl rfl rfl ?_
    refine LL.val (R.move rfl rfl) rfl rfl rfl ?_
    refine LL.val (R.len rfl rfl rfl rfl) rfl rfl rfl ?_
    refine LL.val (R.ltT rfl rfl rfl (by omega)) rfl rfl rfl ?_
    refine LL.nilS ?_
    refine CC.yes rfl ?_
    refine CC.skip ?_
    refine EE.thenN ?_
    refine CC.seq ?_
    refine CC.block ?_
    refine CC.seq ?_
    refine CC.region ?_
    refine LL.val (R.move rfl rfl) rfl rfl rfl ?_
    refine LL.val (R.move rfl rfl) rfl rfl rfl ?_
    refine LL.val (R.move rfl rfl) rfl rfl rfl ?_
    refine LL.val (R.move rfl rfl) rfl rfl rfl ?_
    refine LL.val (R.index rfl rfl rfl (I.ixS rfl (by omega))) rfl rfl rfl ?_
    refine LL.val (R.load rfl rfl (I.ldM (by assumption) rfl rfl)) rfl rfl rfl ?_
    (refine LL.call (R.call rfl rfl rfl) rfl rfl rfl (act_any m gn gl qb N g cap _ b v _ M hd hg) ?_; rintro e Wf144 ⟨s2, g2, cap2, rfl, M2, hd2, hg2, hg3, tf143⟩; refine ⟨_, rfl, ?_⟩; have lts := M.lts; clear M hd m1; have M := M2; have hd := hd2; clear M2 hd2)
    have ztf143 := tf143.size
    replace q := tf143.onB q (fun j hj => ⟨by have := q.size; omega, by omega⟩)
    replace ca := cell_kept ca tf143 ⟨World.block_lt_of_cell? _ _ ca, by omega⟩
    refine LL.val (R.move rfl rfl) rfl rfl rfl ?_
    refine LL.val (R.extract rfl rfl rfl) rfl rfl rfl ?_
    refine LL.val (R.extract rfl rfl rfl) rfl rfl rfl ?_
    refine LL.val (R.assign rfl rfl) rfl rfl rfl ?_
    refine LL.val (R.assign rfl rfl) rfl rfl rfl ?_
    refine LL.nilS ?_
    refine CC.seq ?_
    refine CC.region ?_
    refine LL.val (R.move rfl rfl) rfl rfl rfl ?_
    refine LL.val (R.assign rfl rfl) rfl rfl rfl ?_
    refine LL.nilS ?_
    refine CC.seq ?_
    refine CC.seq ?_
    refine CC.region ?_
    refine LL.val (R.move rfl rfl) rfl rfl rfl ?_
    refine LL.val (R.not rfl rfl) rfl rfl rfl ?_
    refine LL.val (R.move rfl rfl) rfl rfl rfl ?_
    refine LL.val (R.move rfl rfl) rfl rfl rfl ?_
    refine LL.val (R.move rfl rfl) rfl rfl rfl ?_
    (refine LL.call (R.call rfl rfl rfl) rfl rfl rfl (is_any m gn gl qb N g2 cap2 _ M hd) ?_; rintro e Wf326 ⟨rfl, bf323⟩; refine ⟨_, rfl, ?_⟩)
    have zbf323 := bf323.size
    replace M := M.up bf323
    replace hd := hd.up bf323
    replace q := q.trans (bf323.mono q.size)
    replace ca := cell_up ca bf323
    refine LL.val (R.not rfl rfl) rfl rfl rfl ?_
    refine LL.val (R.pick rfl rfl rfl) rfl rfl rfl ?_
    refine LL.nilS ?_
    refine CC.no rfl ?_
    refine CC.skip ?_
    refine EE.thenN ?_
    refine CC.seq ?_
    refine CC.region ?_
    refine LL.val (R.move rfl rfl) rfl rfl rfl ?_
    refine LL.val (R.move rfl rfl) rfl rfl rfl ?_
    refine LL.val (R.index rfl rfl rfl (I.ixS rfl (by omega))) rfl rfl rfl ?_
    refine LL.val (R.field rfl rfl (I.fld rfl)) rfl rfl rfl ?_
    refine LL.val (R.load rfl rfl (I.ld1 rfl (by assumption))) rfl rfl rfl ?_
    refine LL.val (R.eqF rfl rfl rfl (by omega)) rfl rfl rfl ?_
    refine LL.nilS ?_
    refine CC.no rfl ?_
    refine CC.skip ?_
    refine EE.inN ?_
    refine EE.thenN ?_
    refine CC.region ?_
    refine LL.val (R.move rfl rfl) rfl rfl rfl ?_
    refine LL.val (R.addNc rfl rfl rfl rfl (by omega)) rfl rfl rfl ?_
    refine LL.val (R.assign rfl rfl) rfl rfl rfl ?_
    refine LL.nil ?_
    exact EE.round ⟨i + 1, s2, g2, cap2, m, gn, gl, qb⟩ ⟨rfl, rfl, rfl, rfl, rfl, trivial⟩ ⟨by show i + 1 ≤ n; omega, q, M, hd, ⟨by show g2 ≠ gn; omega, by show g2 ≠ gl; omega, by show g2 ≠ qb; omega, by show g2 < _; omega⟩, lm, ln, ll, lq, by show _ ≤ g2; omega⟩ (by show n - (i + 1) < n - i; omega)
end Go.Proofs.Ytajfffoaebjnlaa
