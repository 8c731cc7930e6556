/- PmemCrashes: the walk (written by tools/genpm.py). -/
import Derived.Test.YtajfffoaebjnlaaPm21
namespace Go.Proofs.Ytajfffoaebjnlaa
set_option linter.unusedVariables false
set_option linter.unusedSimpArgs false
open Go.RowKit Go.Shelf
theorem Try.infoY : (Try.prog.info? 5).map (fun i => (i.zero, i.size, i.bytes)) = some (some (.int .u8 0), 1, 1) := by kernel_rfl
theorem ElY : ElT Try.prog 42 5 (.int .u8 0) 1 1 := info_parts_t Try.underlying42 Try.infoY rfl
theorem op_nw (ls : List Ln) : ∀ k, opF (ls.map nwC) k = []
  | 0 => rfl
  | k + 1 => by
    show opF _ k ++ _ = _
    rw [op_nw ls k, List.getElem?_map]
    cases ls[k]? with
    | none => rfl
    | some x => exact if_neg (by rintro (h | ⟨y, h, _⟩); exact h rfl; cases h)
theorem crS_nw (ls : List Ln) (ps : List Nat) : crS (ls.map nwC) ps = ls := by
  unfold crS opS
  rw [op_nw]
  show (ls.map nwC).map (fun c => c.2.1) = ls
  rw [List.map_map]
  exact List.map_id _
set_option maxRecDepth 100000
set_option maxHeartbeats 8000000
theorem crashes_walk (v0 v1 : Value) (ws : List Nat) (xs : List (Int × Int × Int)) (w : World) (hv : ReadsT uE 1 w v0 ws) (hs : ReadsT actE 3 w v1 xs) (hx : ∀ x ∈ xs, 0 ≤ x.2.2) (hL : ws.length ≤ 9223372036854775807) (hn : xs.length ≤ 9223372036854775807) (v2 : Value) (ps : List Nat) (hp : ReadsT yE 1 w v2 ps) (hb : ∀ p ∈ ps, p < 256) (hP : ps.length ≤ 9223372036854775807) : Calls Try.prog 4 #[v0, v1, v2] w fun e w' => e = .returned (.bool true) ∧ Below w.heap.size w w' := by
  have q := Below.refl w.heap.size w
  obtain ⟨a0, c0, rfl, _⟩ := hv.form rfl
  obtain ⟨a1, c1, rfl, _⟩ := hs.form rfl
  obtain ⟨L, eL⟩ : ∃ L, ws.length = L := ⟨_, rfl⟩
  obtain ⟨n, en⟩ : ∃ n, xs.length = n := ⟨_, rfl⟩
  rw [eL] at hv hL ⊢
  rw [en] at hs hn ⊢
  have hvF : ∀ W, Below w.heap.size w W → ReadsT uE 1 W (.slice a0 L c0) ws := fun W b => hv.up b
  have hsF : ∀ W, Below w.heap.size w W → ReadsT actE 3 W (.slice a1 n c1) xs := fun W b => hs.up b
  clear hv hs
  obtain ⟨a2, c2, rfl, _⟩ := hp.form rfl
  obtain ⟨K, eK⟩ : ∃ K, ps.length = K := ⟨_, rfl⟩
  rw [eK] at hp hP ⊢
  have hpF : ∀ W, Below w.heap.size w W → ReadsT yE 1 W (.slice a2 K c2) ps := fun W b => hp.up b
  clear hp
  by_cases h64 : L ≤ 64
  case neg =>
    refine X.fn Try.func4 rfl (n := 106) rfl rfl ?_
    refine CC.seq ?_
    refine CC.region ?_
    refine LL.val (R.assign rfl rfl) rfl rfl rfl ?_
    refine LL.nilS ?_
    refine CC.seq ?_
    refine CC.seq ?_
    refine CC.region ?_
    refine LL.val (R.move rfl rfl) rfl rfl rfl ?_
    refine LL.val (R.len rfl rfl rfl rfl) rfl rfl rfl ?_
    refine LL.val (R.gtT rfl rfl rfl (by omega)) rfl rfl rfl ?_
    refine LL.val (R.move rfl rfl) rfl rfl rfl ?_
    refine LL.skip rfl rfl ?_
    refine LL.skip rfl rfl ?_
    refine LL.skip rfl rfl ?_
    refine LL.skip rfl rfl ?_
    refine LL.val (R.pick rfl rfl rfl) rfl rfl rfl ?_
    refine LL.val (R.move rfl rfl) rfl rfl rfl ?_
    refine LL.skip rfl rfl ?_
    refine LL.skip rfl rfl ?_
    refine LL.skip rfl rfl ?_
    refine LL.val (R.pick rfl rfl rfl) rfl rfl rfl ?_
    refine LL.val (R.move rfl rfl) rfl rfl rfl ?_
    refine LL.skip rfl rfl ?_
    refine LL.skip rfl rfl ?_
    refine LL.skip rfl rfl ?_
    refine LL.val (R.pick rfl rfl rfl) rfl rfl rfl ?_
    refine LL.nilS ?_
    refine CC.yes rfl ?_
    refine CC.seq ?_
    refine CC.region ?_
    refine LL.call (R.call rfl rfl rfl) rfl rfl rfl (works_any _) ?_
    rintro e W2 ⟨rfl, b1⟩
    refine ⟨_, rfl, ?_⟩
    have zb1 := b1.size
    replace q := q.trans (b1.mono q.size)
    refine LL.val (R.assign rfl rfl) rfl rfl rfl ?_
    refine LL.nilS ?_
    refine CC.ret ?_
    refine EE.thenR ?_
    refine EE.ret _ rfl rfl ?_
    exact ⟨rfl, q⟩
  by_cases h8 : 8 ≤ L ∧ L % 8 = 0
  case neg =>
    have hr : (L : Int) < 8 ∨ 131072 < (L : Int) ∨ (L : Int) % 8 ≠ 0 := by omega
    clear h8
    refine X.fn Try.func4 rfl (n := 106) rfl rfl ?_
    refine CC.seq ?_
    refine CC.region ?_
    refine LL.val (R.assign rfl rfl) rfl rfl rfl ?_
    refine LL.nilS ?_
    refine CC.seq ?_
    refine CC.seq ?_
    refine CC.region ?_
    refine LL.val (R.move rfl rfl) rfl rfl rfl ?_
    refine LL.val (R.len rfl rfl rfl rfl) rfl rfl rfl ?_
    refine LL.val (R.gtF rfl rfl rfl (by omega)) rfl rfl rfl ?_
    refine LL.val (R.move rfl rfl) rfl rfl rfl ?_
    refine LL.val (R.move rfl rfl) rfl rfl rfl ?_
    refine LL.val (R.len rfl rfl rfl rfl) rfl rfl rfl ?_
    refine LL.call (R.call rfl rfl rfl) rfl rfl rfl (right_F _ _ (by first | assumption | omega)) ?_
    rintro e W' ⟨rfl, rfl⟩
    refine ⟨_, rfl, ?_⟩
    refine LL.val (R.not rfl rfl) rfl rfl rfl ?_
    refine LL.val (R.pick rfl rfl rfl) rfl rfl rfl ?_
    refine LL.val (R.move rfl rfl) rfl rfl rfl ?_
    refine LL.skip rfl rfl ?_
    refine LL.skip rfl rfl ?_
    refine LL.skip rfl rfl ?_
    refine LL.val (R.pick rfl rfl rfl) rfl rfl rfl ?_
    refine LL.val (R.move rfl rfl) rfl rfl rfl ?_
    refine LL.skip rfl rfl ?_
    refine LL.skip rfl rfl ?_
    refine LL.skip rfl rfl ?_
    refine LL.val (R.pick rfl rfl rfl) rfl rfl rfl ?_
    refine LL.nilS ?_
    refine CC.yes rfl ?_
    refine CC.seq ?_
    refine CC.region ?_
    refine LL.call (R.call rfl rfl rfl) rfl rfl rfl (works_any _) ?_
    rintro e Wa2 ⟨rfl, ba1⟩
    refine ⟨_, rfl, ?_⟩
    have zba1 := ba1.size
    replace q := q.trans (ba1.mono q.size)
    refine LL.val (R.assign rfl rfl) rfl rfl rfl ?_
    refine LL.nilS ?_
    refine CC.ret ?_
    refine EE.thenR ?_
    refine EE.ret _ rfl rfl ?_
    exact ⟨rfl, q⟩
  obtain ⟨N, rfl⟩ : ∃ N, L = N * 8 := ⟨L / 8, by omega⟩
  have h0 : 0 < N := by omega
  have hN : N ≤ 16384 := by omega
  clear h8
  by_cases h60 : n ≤ 60
  case neg =>
    refine X.fn Try.func4 rfl (n := 106) rfl rfl ?_
    refine CC.seq ?_
    refine CC.region ?_
    refine LL.val (R.assign rfl rfl) rfl rfl rfl ?_
    refine LL.nilS ?_
    refine CC.seq ?_
    refine CC.seq ?_
    refine CC.region ?_
    refine LL.val (R.move rfl rfl) rfl rfl rfl ?_
    refine LL.val (R.len rfl rfl rfl rfl) rfl rfl rfl ?_
    refine LL.val (R.gtF rfl rfl rfl (by omega)) rfl rfl rfl ?_
    refine LL.val (R.move rfl rfl) rfl rfl rfl ?_
    refine LL.val (R.move rfl rfl) rfl rfl rfl ?_
    refine LL.val (R.len rfl rfl rfl rfl) rfl rfl rfl ?_
    refine LL.call (R.call rfl rfl rfl) rfl rfl rfl (right_T _ _ (by first | assumption | omega)) ?_
    rintro e W' ⟨rfl, rfl⟩
    refine ⟨_, rfl, ?_⟩
    refine LL.val (R.not rfl rfl) rfl rfl rfl ?_
    refine LL.val (R.pick rfl rfl rfl) rfl rfl rfl ?_
    refine LL.val (R.move rfl rfl) rfl rfl rfl ?_
    refine LL.val (R.move rfl rfl) rfl rfl rfl ?_
    refine LL.val (R.len rfl rfl rfl rfl) rfl rfl rfl ?_
    refine LL.val (R.gtT rfl rfl rfl (by omega)) rfl rfl rfl ?_
    refine LL.val (R.pick rfl rfl rfl) rfl rfl rfl ?_
    refine LL.val (R.move rfl rfl) rfl rfl rfl ?_
    refine LL.skip rfl rfl ?_
    refine LL.skip rfl rfl ?_
    refine LL.skip rfl rfl ?_
    refine LL.val (R.pick rfl rfl rfl) rfl rfl rfl ?_
    refine LL.nilS ?_
    refine CC.yes rfl ?_
    refine CC.seq ?_
    refine CC.region ?_
    refine LL.call (R.call rfl rfl rfl) rfl rfl rfl (works_any _) ?_
    rintro e Wb2 ⟨rfl, bb1⟩
    refine ⟨_, rfl, ?_⟩
    have zbb1 := bb1.size
    replace q := q.trans (bb1.mono q.size)
    refine LL.val (R.assign rfl rfl) rfl rfl rfl ?_
    refine LL.nilS ?_
    refine CC.ret ?_
    refine EE.thenR ?_
    refine EE.ret _ rfl rfl ?_
    exact ⟨rfl, q⟩
  by_cases h20 : K ≤ 20
  case neg =>
    refine X.fn Try.func4 rfl (n := 106) rfl rfl ?_
    refine CC.seq ?_
    refine CC.region ?_
    refine LL.val (R.assign rfl rfl) rfl rfl rfl ?_
    refine LL.nilS ?_
    refine CC.seq ?_
    refine CC.seq ?_
    refine CC.region ?_
    refine LL.val (R.move rfl rfl) rfl rfl rfl ?_
    refine LL.val (R.len rfl rfl rfl rfl) rfl rfl rfl ?_
    refine LL.val (R.gtF rfl rfl rfl (by omega)) rfl rfl rfl ?_
    refine LL.val (R.move rfl rfl) rfl rfl rfl ?_
    refine LL.val (R.move rfl rfl) rfl rfl rfl ?_
    refine LL.val (R.len rfl rfl rfl rfl) rfl rfl rfl ?_
    refine LL.call (R.call rfl rfl rfl) rfl rfl rfl (right_T _ _ (by first | assumption | omega)) ?_
    rintro e W' ⟨rfl, rfl⟩
    refine ⟨_, rfl, ?_⟩
    refine LL.val (R.not rfl rfl) rfl rfl rfl ?_
    refine LL.val (R.pick rfl rfl rfl) rfl rfl rfl ?_
    refine LL.val (R.move rfl rfl) rfl rfl rfl ?_
    refine LL.val (R.move rfl rfl) rfl rfl rfl ?_
    refine LL.val (R.len rfl rfl rfl rfl) rfl rfl rfl ?_
    refine LL.val (R.gtF rfl rfl rfl (by omega)) rfl rfl rfl ?_
    refine LL.val (R.pick rfl rfl rfl) rfl rfl rfl ?_
    refine LL.val (R.move rfl rfl) rfl rfl rfl ?_
    refine LL.val (R.move rfl rfl) rfl rfl rfl ?_
    refine LL.val (R.len rfl rfl rfl rfl) rfl rfl rfl ?_
    refine LL.val (R.gtT rfl rfl rfl (by omega)) rfl rfl rfl ?_
    refine LL.val (R.pick rfl rfl rfl) rfl rfl rfl ?_
    refine LL.nilS ?_
    refine CC.yes rfl ?_
    refine CC.seq ?_
    refine CC.region ?_
    refine LL.call (R.call rfl rfl rfl) rfl rfl rfl (works_any _) ?_
    rintro e Wc2 ⟨rfl, bc1⟩
    refine ⟨_, rfl, ?_⟩
    have zbc1 := bc1.size
    replace q := q.trans (bc1.mono q.size)
    refine LL.val (R.assign rfl rfl) rfl rfl rfl ?_
    refine LL.nilS ?_
    refine CC.ret ?_
    refine EE.thenR ?_
    refine EE.ret _ rfl rfl ?_
    exact ⟨rfl, q⟩
  refine X.fn Try.func4 rfl (n := 106) rfl rfl ?_
  refine CC.seq ?_
  refine CC.region ?_
  refine LL.val (R.assign rfl rfl) rfl rfl rfl ?_
  refine LL.nilS ?_
  refine CC.seq ?_
  refine CC.seq ?_
  refine CC.region ?_
  refine LL.val (R.move rfl rfl) rfl rfl rfl ?_
  refine LL.val (R.len rfl rfl rfl rfl) rfl rfl rfl ?_
  refine LL.val (R.gtF rfl rfl rfl (by omega)) rfl rfl rfl ?_
  refine LL.val (R.move rfl rfl) rfl rfl rfl ?_
  refine LL.val (R.move rfl rfl) rfl rfl rfl ?_
  refine LL.val (R.len rfl rfl rfl rfl) rfl rfl rfl ?_
  refine LL.call (R.call rfl rfl rfl) rfl rfl rfl (right_T _ _ (by first | assumption | omega)) ?_
  rintro e W' ⟨rfl, rfl⟩
  refine ⟨_, rfl, ?_⟩
  refine LL.val (R.not rfl rfl) rfl rfl rfl ?_
  refine LL.val (R.pick rfl rfl rfl) rfl rfl rfl ?_
  refine LL.val (R.move rfl rfl) rfl rfl rfl ?_
  refine LL.val (R.move rfl rfl) rfl rfl rfl ?_
  refine LL.val (R.len rfl rfl rfl rfl) rfl rfl rfl ?_
  refine LL.val (R.gtF rfl rfl rfl (by omega)) rfl rfl rfl ?_
  refine LL.val (R.pick rfl rfl rfl) rfl rfl rfl ?_
  refine LL.val (R.move rfl rfl) rfl rfl rfl ?_
  refine LL.val (R.move rfl rfl) rfl rfl rfl ?_
  refine LL.val (R.len rfl rfl rfl rfl) rfl rfl rfl ?_
  refine LL.val (R.gtF rfl rfl rfl (by omega)) rfl rfl rfl ?_
  refine LL.val (R.pick rfl rfl rfl) rfl rfl rfl ?_
  refine LL.nilS ?_
  refine CC.no rfl ?_
  refine CC.skip ?_
  refine EE.thenN ?_
  refine CC.seq ?_
  refine CC.region ?_
  refine LL.val (R.move rfl rfl) rfl rfl rfl ?_
  (refine LL.call (R.call rfl rfl rfl) rfl rfl rfl (of_T a0 (N * 8) c0 N ws _ (hvF _ q) rfl h0 hN) ?_; rintro e Wd298 ⟨m, gn, gl, qb, rfl, M, lm, ln, ll, lq, bd295⟩; refine ⟨_, rfl, ?_⟩; have lts := M.lts)
  have zbd295 := bd295.size
  replace q := q.trans (bd295.mono q.size)
  refine LL.val (R.move rfl rfl) rfl rfl rfl ?_
  refine LL.val (R.extract rfl rfl rfl) rfl rfl rfl ?_
  refine LL.val (R.extract rfl rfl rfl) rfl rfl rfl ?_
  refine LL.val (R.assign rfl rfl) rfl rfl rfl ?_
  refine LL.val (R.assign rfl rfl) rfl rfl rfl ?_
  refine LL.nilS ?_
  refine CC.seq ?_
  refine CC.region ?_
  refine LL.val (R.move rfl rfl) rfl rfl rfl ?_
  (refine LL.call (R.call rfl rfl rfl) rfl rfl rfl (dof_any a0 (N * 8) c0 N ws _ (hvF _ q) rfl h0 hN) ?_; rintro e Wd396 ⟨g, cap, rfl, hd, lg, lg2, bd393⟩; refine ⟨_, rfl, ?_⟩)
  have zbd393 := bd393.size
  replace M := M.up bd393
  replace bd295 := bd295.trans (bd393.mono bd295.size)
  replace q := q.trans (bd393.mono q.size)
  refine LL.val (R.assign rfl rfl) rfl rfl rfl ?_
  refine LL.nilS ?_
  refine CC.seq ?_
  refine CC.seq ?_
  refine CC.region ?_
  refine LL.val (R.move rfl rfl) rfl rfl rfl ?_
  refine LL.call (R.call rfl rfl rfl) rfl rfl rfl (num_any _ _) ?_
  rintro e W' ⟨rfl, rfl⟩
  refine ⟨_, rfl, ?_⟩
  refine LL.val (R.neF rfl rfl rfl (by omega)) rfl rfl rfl ?_
  refine LL.nilS ?_
  refine CC.no rfl ?_
  refine CC.skip ?_
  refine EE.thenN ?_
  refine CC.seq ?_
  refine CC.seq ?_
  refine CC.region ?_
  refine LL.val (R.assign rfl rfl) rfl rfl rfl ?_
  refine LL.nilS ?_
  refine CC.block ?_
  have yq := q.size
  refine CC.loop (α := PSt) (fun t => [(0, .slice a0 (N * 8) c0), (1, .slice a1 n c1), (2, .slice a2 K c2), (7, .pointer (some ⟨t.m, 0, none⟩)), (9, .slice (some ⟨t.g, 0, none⟩) N t.cap), (10, .int .i64 (t.i : Int))]) (PSt.I w N n) (fun t => n - t.i) ⟨0, ofS N ws, g, cap, m, gn, gl, qb⟩ ⟨rfl, rfl, rfl, rfl, rfl, rfl, trivial⟩ ⟨by show 0 ≤ n; omega, q, M, hd, ⟨by show g ≠ gn; omega, by show g ≠ gl; omega, by show g ≠ qb; omega, by show g < _; omega⟩, lm, ln, ll, lq, by show w.heap.size ≤ g; omega⟩ ?_
  clear q M hd
  rintro ⟨i, s, g, cap, m, gn, gl, qb⟩ W ⟨hi, q, M, hd, hg, lm, ln, ll, lq, lg⟩
  simp only at hi M hd hg lm ln ll lq lg
  show CC none Try.prog _ 106 [] (sl [(0, .slice a0 (N * 8) c0), (1, .slice a1 n c1), (2, .slice a2 K c2), (7, .pointer (some ⟨m, 0, none⟩)), (9, .slice (some ⟨g, 0, none⟩) N cap), (10, .int .i64 (i : Int))]) _ W
  have yw := q.size
  by_cases hlt : i < n
  case pos =>
    obtain ⟨⟨a, b, v⟩, hget⟩ : ∃ x, xs[i]? = some x := ⟨_, List.getElem?_eq_getElem (by omega)⟩
    have hv0 := hx _ (List.mem_of_getElem? hget)
    simp only at hv0
    obtain ⟨v, rfl⟩ : ∃ v' : Nat, v = (v' : Int) := ⟨v.toNat, by omega⟩
    obtain ⟨bs, os, rfl, lbs, _⟩ := (hsF w (Below.refl _ _)).get actEnc hget
    have m1 : CellsN W ⟨bs, os + i * 3, none⟩ 3 [.int .i64 a, .int .i64 b, .int .u64 (v : Int)] := (hsF W q).elemN actEnc hget
    refine CC.seq ?_
    refine CC.seq ?_
    refine CC.region ?_
    refine LL.val (R.move rfl rfl) rfl rfl rfl ?_
    refine LL.val (R.move rfl rfl) rfl rfl rfl ?_
    refine LL.val (R.len rfl rfl rfl rfl) rfl rfl rfl ?_
    refine LL.val (R.ltT rfl rfl rfl (by omega)) rfl rfl rfl ?_
    refine LL.nilS ?_
    refine CC.yes rfl ?_
    refine CC.skip ?_
    refine EE.thenN ?_
    refine CC.seq ?_
    refine CC.block ?_
    refine CC.seq ?_
    refine CC.region ?_
    refine LL.val (R.move rfl rfl) rfl rfl rfl ?_
    refine LL.val (R.move rfl rfl) rfl rfl rfl ?_
    refine LL.val (R.move rfl rfl) rfl rfl rfl ?_
    refine LL.val (R.move rfl rfl) rfl rfl rfl ?_
    refine LL.val (R.index rfl rfl rfl (I.ixS rfl (by omega))) rfl rfl rfl ?_
    refine LL.val (R.load rfl rfl (I.ldM (by assumption) rfl rfl)) rfl rfl rfl ?_
    (refine LL.call (R.call rfl rfl rfl) rfl rfl rfl (act_any m gn gl qb N g cap _ b v _ M hd hg) ?_; rintro e We74 ⟨s2, g2, cap2, rfl, M2, hd2, hg2, hg3, te73⟩; refine ⟨_, rfl, ?_⟩; have lts := M.lts; clear M hd m1; have M := M2; have hd := hd2; clear M2 hd2)
    have zte73 := te73.size
    replace q := te73.onB q (fun j hj => ⟨by have := q.size; omega, by omega⟩)
    refine LL.val (R.move rfl rfl) rfl rfl rfl ?_
    refine LL.val (R.extract rfl rfl rfl) rfl rfl rfl ?_
    refine LL.val (R.extract rfl rfl rfl) rfl rfl rfl ?_
    refine LL.val (R.assign rfl rfl) rfl rfl rfl ?_
    refine LL.val (R.assign rfl rfl) rfl rfl rfl ?_
    refine LL.nilS ?_
    refine CC.seq ?_
    refine CC.region ?_
    refine LL.val (R.move rfl rfl) rfl rfl rfl ?_
    refine LL.val (R.assign rfl rfl) rfl rfl rfl ?_
    refine LL.nilS ?_
    refine CC.seq ?_
    refine CC.region ?_
    refine LL.val (R.move rfl rfl) rfl rfl rfl ?_
    refine LL.val (R.not rfl rfl) rfl rfl rfl ?_
    refine LL.nilS ?_
    refine CC.no rfl ?_
    refine CC.skip ?_
    refine EE.inN ?_
    refine EE.thenN ?_
    refine CC.region ?_
    refine LL.val (R.move rfl rfl) rfl rfl rfl ?_
    refine LL.val (R.addNc rfl rfl rfl rfl (by omega)) rfl rfl rfl ?_
    refine LL.val (R.assign rfl rfl) rfl rfl rfl ?_
    refine LL.nil ?_
    exact EE.round ⟨i + 1, s2, g2, cap2, m, gn, gl, qb⟩ ⟨rfl, rfl, rfl, rfl, rfl, rfl, trivial⟩ ⟨by show i + 1 ≤ n; omega, q, M, hd, ⟨by show g2 ≠ gn; omega, by show g2 ≠ gl; omega, by show g2 ≠ qb; omega, by show g2 < _; omega⟩, lm, ln, ll, lq, by show w.heap.size ≤ g2; omega⟩ (by show n - (i + 1) < n - i; omega)
  have hP2 : K ≤ 1048576 := by omega
  obtain rfl : i = n := by omega
  refine CC.seq ?_
  refine CC.seq ?_
  refine CC.region ?_
  refine LL.val (R.move rfl rfl) rfl rfl rfl ?_
  refine LL.val (R.move rfl rfl) rfl rfl rfl ?_
  refine LL.val (R.len rfl rfl rfl rfl) rfl rfl rfl ?_
  refine LL.val (R.ltF rfl rfl rfl (by omega)) rfl rfl rfl ?_
  refine LL.nilS ?_
  refine CC.no rfl ?_
  refine CC.exit ?_
  refine EE.thenX ?_
  refine EE.thenX ?_
  refine EE.inX ?_
  refine EE.thenN ?_
  refine CC.seq ?_
  refine CC.region ?_
  refine LL.val (R.move rfl rfl) rfl rfl rfl ?_
  refine LL.lit (e := 5) [] 0 rfl rfl (fun _ => by kernel_rfl) rfl rfl ?_
  intro Wf296 gf297 egf297 rf298 zf299 bf295
  replace q := q.trans (bf295.mono q.size)
  replace M := M.up bf295
  replace hd := hd.up bf295
  refine LL.val (R.move rfl rfl) rfl rfl rfl ?_
  have lf360 := rf298.lt
  (refine LL.append0 rfl rfl yEnc ElY (RowL.own0 (cap := 0) (base := w.heap.size) (by assumption) rfl (by omega) (by simp [maxLen])) (hpF _ q) (by rw [eK]; simp only [maxLen]; omega) (by rw [eK]; omega) (by omega) rfl rfl ?_; intro v5 Wf359 o5 bf356; obtain ⟨a5, c5, rfl, _⟩ := (o5.reads yEnc).form eK)
  have zbf356 := bf356.size
  replace rf298 := rf298.up bf356
  replace bf295 := bf295.trans (bf356.mono bf295.size)
  replace q := q.trans (bf356.mono q.size)
  replace M := M.up bf356
  replace hd := hd.up bf356
  have lf376 := rf298.lt
  (refine LL.call (R.call rfl rfl rfl) rfl rfl rfl (crash_any m gn gl qb N a5 K c5 ps _ M (o5.reads yEnc) eK hP2 hb) ?_; rintro e Wf375 ⟨m3, gn3, gl3, qb3, rfl, M3, _, _, _, _, bf372⟩; refine ⟨_, rfl, ?_⟩; clear o5)
  have zbf372 := bf372.size
  replace bf356 := bf356.trans (bf372.mono bf356.size)
  replace rf298 := rf298.up bf372
  replace bf295 := bf295.trans (bf372.mono bf295.size)
  replace q := q.trans (bf372.mono q.size)
  replace M := M.up bf372
  replace hd := hd.up bf372
  refine LL.val (R.move rfl rfl) rfl rfl rfl ?_
  refine LL.val (R.extract rfl rfl rfl) rfl rfl rfl ?_
  refine LL.val (R.extract rfl rfl rfl) rfl rfl rfl ?_
  refine LL.val (R.assign rfl rfl) rfl rfl rfl ?_
  refine LL.val (R.assign rfl rfl) rfl rfl rfl ?_
  refine LL.nilS ?_
  refine CC.seq ?_
  refine CC.region ?_
  refine LL.val (R.move rfl rfl) rfl rfl rfl ?_
  refine LL.val (R.move rfl rfl) rfl rfl rfl ?_
  have lf792 := rf298.lt
  (refine LL.call (R.call rfl rfl rfl) rfl rfl rfl (crash_any m3 gn3 gl3 qb3 N a2 K c2 ps _ M3 (hpF _ q) eK hP2 hb) ?_; rintro e Wf791 ⟨m4, gn4, gl4, qb4, rfl, M4, _, _, _, _, bf788⟩; refine ⟨_, rfl, ?_⟩; rw [crS_nw] at M4)
  have zbf788 := bf788.size
  replace M3 := M3.up bf788
  replace bf372 := bf372.trans (bf788.mono bf372.size)
  replace bf356 := bf356.trans (bf788.mono bf356.size)
  replace rf298 := rf298.up bf788
  replace bf295 := bf295.trans (bf788.mono bf295.size)
  replace q := q.trans (bf788.mono q.size)
  replace M := M.up bf788
  replace hd := hd.up bf788
  refine LL.val (R.move rfl rfl) rfl rfl rfl ?_
  refine LL.val (R.extract rfl rfl rfl) rfl rfl rfl ?_
  refine LL.val (R.extract rfl rfl rfl) rfl rfl rfl ?_
  refine LL.val (R.assign rfl rfl) rfl rfl rfl ?_
  refine LL.val (R.assign rfl rfl) rfl rfl rfl ?_
  refine LL.nilS ?_
  refine CC.seq ?_
  refine CC.region ?_
  refine LL.val (R.move rfl rfl) rfl rfl rfl ?_
  refine LL.call (R.call rfl rfl rfl) rfl rfl rfl (num_any _ _) ?_
  rintro e W' ⟨rfl, rfl⟩
  refine ⟨_, rfl, ?_⟩
  refine LL.val (R.move rfl rfl) rfl rfl rfl ?_
  refine LL.call (R.call rfl rfl rfl) rfl rfl rfl (num_any _ _) ?_
  rintro e W' ⟨rfl, rfl⟩
  refine ⟨_, rfl, ?_⟩
  refine LL.val (R.addIz (z := 0) rfl rfl rfl (by decide) (by decide)) rfl rfl rfl ?_
  refine LL.val (R.eqT rfl rfl rfl (by omega)) rfl rfl rfl ?_
  refine LL.val (R.move rfl rfl) rfl rfl rfl ?_
  refine LL.val (R.move rfl rfl) rfl rfl rfl ?_
  refine LL.val (R.move rfl rfl) rfl rfl rfl ?_
  refine LL.val (R.move rfl rfl) rfl rfl rfl ?_
  have lf1664 := rf298.lt
  (refine LL.call (R.call rfl rfl rfl) rfl rfl rfl (dcrash_any s g N cap a2 K c2 ps _ hd M.len h0 hN (hpF _ q) eK hP2 hb) ?_; rintro e Wf1663 ⟨g3, cap3, rfl, hd3, _, _, bf1660⟩; refine ⟨_, rfl, ?_⟩)
  have zbf1660 := bf1660.size
  replace M4 := M4.up bf1660
  replace bf788 := bf788.trans (bf1660.mono bf788.size)
  replace M3 := M3.up bf1660
  replace bf372 := bf372.trans (bf1660.mono bf372.size)
  replace bf356 := bf356.trans (bf1660.mono bf356.size)
  replace rf298 := rf298.up bf1660
  replace bf295 := bf295.trans (bf1660.mono bf295.size)
  replace q := q.trans (bf1660.mono q.size)
  replace M := M.up bf1660
  replace hd := hd.up bf1660
  have lf1704 := rf298.lt
  (refine LL.call (R.call rfl rfl rfl) rfl rfl rfl (is_any m3 gn3 gl3 qb3 N g3 cap3 _ M3 hd3) ?_; rintro e Wf1703 ⟨rfl, bf1700⟩; refine ⟨_, rfl, ?_⟩; clear hd3)
  have zbf1700 := bf1700.size
  replace bf1660 := bf1660.trans (bf1700.mono bf1660.size)
  replace M4 := M4.up bf1700
  replace bf788 := bf788.trans (bf1700.mono bf788.size)
  replace M3 := M3.up bf1700
  replace bf372 := bf372.trans (bf1700.mono bf372.size)
  replace bf356 := bf356.trans (bf1700.mono bf356.size)
  replace rf298 := rf298.up bf1700
  replace bf295 := bf295.trans (bf1700.mono bf295.size)
  replace q := q.trans (bf1700.mono q.size)
  replace M := M.up bf1700
  replace hd := hd.up bf1700
  refine LL.val (R.pick rfl rfl rfl) rfl rfl rfl ?_
  refine LL.val (R.move rfl rfl) rfl rfl rfl ?_
  refine LL.val (R.move rfl rfl) rfl rfl rfl ?_
  refine LL.val (R.move rfl rfl) rfl rfl rfl ?_
  have lf1976 := rf298.lt
  (refine LL.call (R.call rfl rfl rfl) rfl rfl rfl (is_any m gn gl qb N g cap _ M hd) ?_; rintro e Wf1975 ⟨rfl, bf1972⟩; refine ⟨_, rfl, ?_⟩)
  have zbf1972 := bf1972.size
  replace bf1700 := bf1700.trans (bf1972.mono bf1700.size)
  replace bf1660 := bf1660.trans (bf1972.mono bf1660.size)
  replace M4 := M4.up bf1972
  replace bf788 := bf788.trans (bf1972.mono bf788.size)
  replace M3 := M3.up bf1972
  replace bf372 := bf372.trans (bf1972.mono bf372.size)
  replace bf356 := bf356.trans (bf1972.mono bf356.size)
  replace rf298 := rf298.up bf1972
  replace bf295 := bf295.trans (bf1972.mono bf295.size)
  replace q := q.trans (bf1972.mono q.size)
  replace M := M.up bf1972
  replace hd := hd.up bf1972
  refine LL.val (R.pick rfl rfl rfl) rfl rfl rfl ?_
  refine LL.val (R.move rfl rfl) rfl rfl rfl ?_
  refine LL.val (R.move rfl rfl) rfl rfl rfl ?_
  refine LL.val (R.move rfl rfl) rfl rfl rfl ?_
  have lf2256 := rf298.lt
  (refine LL.call (R.call rfl rfl rfl) rfl rfl rfl (same_any m3 gn3 gl3 qb3 m4 gn4 gl4 qb4 N _ _ _ M3 M4) ?_; rintro e Wf2255 ⟨rfl, bf2252⟩; refine ⟨_, rfl, ?_⟩; rw [decide_eq_true rfl])
  have zbf2252 := bf2252.size
  replace bf1972 := bf1972.trans (bf2252.mono bf1972.size)
  replace bf1700 := bf1700.trans (bf2252.mono bf1700.size)
  replace bf1660 := bf1660.trans (bf2252.mono bf1660.size)
  replace M4 := M4.up bf2252
  replace bf788 := bf788.trans (bf2252.mono bf788.size)
  replace M3 := M3.up bf2252
  replace bf372 := bf372.trans (bf2252.mono bf372.size)
  replace bf356 := bf356.trans (bf2252.mono bf356.size)
  replace rf298 := rf298.up bf2252
  replace bf295 := bf295.trans (bf2252.mono bf295.size)
  replace q := q.trans (bf2252.mono q.size)
  replace M := M.up bf2252
  replace hd := hd.up bf2252
  refine LL.val (R.pick rfl rfl rfl) rfl rfl rfl ?_
  refine LL.val (R.move rfl rfl) rfl rfl rfl ?_
  refine LL.call (R.call rfl rfl rfl) rfl rfl rfl (works_any _) ?_
  rintro e Wf2429 ⟨rfl, bf2428⟩
  refine ⟨_, rfl, ?_⟩
  have zbf2428 := bf2428.size
  replace bf2252 := bf2252.trans (bf2428.mono bf2252.size)
  replace bf1972 := bf1972.trans (bf2428.mono bf1972.size)
  replace bf1700 := bf1700.trans (bf2428.mono bf1700.size)
  replace bf1660 := bf1660.trans (bf2428.mono bf1660.size)
  replace M4 := M4.up bf2428
  replace bf788 := bf788.trans (bf2428.mono bf788.size)
  replace M3 := M3.up bf2428
  replace bf372 := bf372.trans (bf2428.mono bf372.size)
  replace bf356 := bf356.trans (bf2428.mono bf356.size)
  replace rf298 := rf298.up bf2428
  replace bf295 := bf295.trans (bf2428.mono bf295.size)
  replace q := q.trans (bf2428.mono q.size)
  replace M := M.up bf2428
  replace hd := hd.up bf2428
  refine LL.val (R.pick rfl rfl rfl) rfl rfl rfl ?_
  refine LL.val (R.assign rfl rfl) rfl rfl rfl ?_
  refine LL.nilS ?_
  refine CC.ret ?_
  refine EE.ret _ rfl rfl ?_
  exact ⟨rfl, q⟩
end Go.Proofs.Ytajfffoaebjnlaa
