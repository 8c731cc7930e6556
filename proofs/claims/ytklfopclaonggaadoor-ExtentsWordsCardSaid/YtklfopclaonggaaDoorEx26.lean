/- ExtentsPuts, ExtentsCuts. -/
import Derived.Test.YtklfopclaonggaaDoorEx25
namespace Go.Proofs.YtklfopclaonggaaDoor
set_option linter.unusedVariables false
set_option linter.unusedSimpArgs false
open Go.RowKit Go.Shelf
theorem rput_T {l : List Ex} {f d k : Nat} (v : Value) (w : World) (hv : ReadsT eE 3 w v l) (h : okPut l ((f : Int), (d : Int), (k : Int))) (hn : (gat (nz (setN (plL l) f d k))).length ≤ 10) : Calls Tryd.prog 19 #[v, .agg #[.int .i64 (f : Int), .int .i64 (d : Int), .int .i64 (k : Int)]] w fun e w' => ∃ v1 v2, e = .returned (.tuple #[v1, v2, .int .i64 0]) ∧ ReadsT eE 3 w' v1 (gat (nz (setN (plL l) f d k))) ∧ ReadsT rE 2 w' v2 (gatR (dvF (plL l) f k)) ∧ Below w.heap.size w w' :=
  (rput_any l f d k v w hv h.1 h.2.1).mono fun e w' ⟨hc, hb⟩ => by
    rcases hc with ⟨h1, _⟩ | ⟨_, h1, _⟩ | ⟨_, _, v1, v2, h3, h4, h5⟩
    · exact absurd h h1
    · omega
    · exact ⟨v1, v2, h3, h4, h5, hb⟩
theorem rput_L {l : List Ex} {f d k : Nat} (v : Value) (w : World) (hv : ReadsT eE 3 w v l) (h : okPut l ((f : Int), (d : Int), (k : Int))) (hn : 10 < (gat (nz (setN (plL l) f d k))).length) : Calls Tryd.prog 19 #[v, .agg #[.int .i64 (f : Int), .int .i64 (d : Int), .int .i64 (k : Int)]] w fun e w' => e = .returned (.tuple #[.slice none 0 0, .slice none 0 0, .int .i64 3]) ∧ Below w.heap.size w w' :=
  (rput_any l f d k v w hv h.1 h.2.1).mono fun e w' ⟨hc, hb⟩ => by
    rcases hc with ⟨h1, _⟩ | ⟨_, _, h3⟩ | ⟨_, h1, _⟩
    · exact absurd h h1
    · exact ⟨h3, hb⟩
    · omega
theorem rput_F {l : List Ex} (x : Ex) (v : Value) (w : World) (hv : ReadsT eE 3 w v l) (hlen : l.length ≤ 1048576) (h : ¬okPut l x) : Calls Tryd.prog 19 #[v, exV x] w fun e w' => e = .returned (.tuple #[.slice none 0 0, .slice none 0 0, .int .i64 2]) ∧ Below w.heap.size w w' := by
  by_cases hb : vL l ∧ mayE x
  · obtain ⟨hl, hm⟩ := hb
    obtain ⟨f, d, k, rfl, _⟩ := pkZ_nat hm
    exact (rput_any l f d k v w hv hl hm).mono fun e w' ⟨hc, hb⟩ => by
      rcases hc with ⟨_, h3⟩ | ⟨h1, _⟩ | ⟨h1, _⟩
      · exact ⟨h3, hb⟩
      · exact absurd h1 h
      · exact absurd h1 h
  · exact rput_bad l x v w hv hlen (by by_cases hl : vL l; exact .inr fun hm => hb ⟨hl, hm⟩; exact .inl hl)
theorem cut_T {l : List Ex} (f : Nat) (v : Value) (w : World) (hv : ReadsT eE 3 w v l) (hl : vL l) (hf : f ≤ 128) : Calls Tryd.prog 22 #[v, .int .i64 (f : Int)] w fun e w' => ∃ v1 v2, e = .returned (.tuple #[v1, v2, .int .i64 0]) ∧ ReadsT eE 3 w' v1 (gat (nz (zerN (plL l) f (128 - f)))) ∧ ReadsT rE 2 w' v2 (gatR (dvF (plL l) f (128 - f))) ∧ Below w.heap.size w w' :=
  (cut_any l f v w hv hl hf).mono fun e w' ⟨⟨v1, v2, h3, h4, h5⟩, hb⟩ => ⟨v1, v2, h3, h4, h5, hb⟩
theorem slist_T (va vb : Value) (xs : List Ex) (w : World) (ha : ReadsT eE 3 w va xs) (hb : ReadsT eE 3 w vb xs) (hlx : xs.length ≤ 1048576) : Calls Tryd.prog 20 #[va, vb] w fun e w' => e = .returned (.bool true) ∧ Below w.heap.size w w' :=
  (slist_any va vb xs xs w ha hb hlx hlx).mono fun e w' ⟨he, b⟩ => ⟨by rw [he, decide_eq_true rfl], b⟩
theorem slist_N (w : World) : Calls Tryd.prog 20 #[.slice none 0 0, .slice none 0 0] w fun e w' => e = .returned (.bool true) ∧ Below w.heap.size w w' :=
  slist_T _ _ [] w (ReadsT.nil w) (ReadsT.nil w) (by simp)
theorem sruns_T (va vb : Value) (xs : List Bl) (w : World) (ha : ReadsT rE 2 w va xs) (hb : ReadsT rE 2 w vb xs) (hlx : xs.length ≤ 1048576) : Calls Tryd.prog 21 #[va, vb] w fun e w' => e = .returned (.bool true) ∧ Below w.heap.size w w' :=
  (sruns_any va vb xs xs w ha hb hlx hlx).mono fun e w' ⟨he, b⟩ => ⟨by rw [he, decide_eq_true rfl], b⟩
theorem sruns_N (w : World) : Calls Tryd.prog 21 #[.slice none 0 0, .slice none 0 0] w fun e w' => e = .returned (.bool true) ∧ Below w.heap.size w w' :=
  sruns_T _ _ [] w (ReadsT.nil w) (ReadsT.nil w) (by simp)
theorem lent_n (l : List Ex) (N : Nat) (v : Value) (w : World) (hv : ReadsT eE 3 w v l) (hlen : l.length ≤ 1048576) (hN : l.length = N) : Calls Tryd.prog 12 #[v] w fun e w' => ∃ g cap, e = .returned (.slice (some ⟨g, 0, none⟩) N cap) ∧ ReadsT eE 3 w' (.slice (some ⟨g, 0, none⟩) (N + 1) cap) (l ++ [(77, 0, 0)]) ∧ ReadsT eE 3 w' (.slice (some ⟨g, 0, none⟩) N cap) l ∧ N + 1 ≤ cap ∧ Below w.heap.size w w' :=
  (lent_any l v w hv hlen).mono fun e w' ⟨g, cap, he, hr, hc, _, hw⟩ => by
    rw [hN] at he hr hc
    refine ⟨g, cap, he, hr, ?_, hc, hw⟩
    have := hr.take eEnc N (by omega) cap (by omega)
    rwa [List.take_left' hN] at this
theorem lent_c {l : List Ex} {N g cap : Nat} {w : World} (hr : ReadsT eE 3 w (.slice (some ⟨g, 0, none⟩) (N + 1) cap) (l ++ [(77, 0, 0)])) (hN : l.length = N) : w.cell? ⟨g, 0 + N * 3 + 0, none⟩ = some (.int .i64 77) := by
  obtain ⟨_, _, e1, _, hcs⟩ := hr.get eEnc (i := N) (t := (77, 0, 0)) (by rw [← hN]; simp)
  cases e1
  exact hcs.at (j := 0) rfl
set_option maxRecDepth 100000 in
set_option maxHeartbeats 8000000 in
theorem cutsx_walk (v : Value) (l : List Ex) (B : Int) (w : World) (hs : Start w) (hv : ReadsT eE 3 w v l) : Calls Tryd.prog 6 #[v, .int .i64 B] w fun e w' => e = .returned (.bool true) ∧ Below w.heap.size w w' := by
  have q := Below.refl w.heap.size w
  obtain ⟨N, hN⟩ : ∃ N, l.length = N := ⟨_, rfl⟩
  obtain ⟨a, cap, rfl, hcap⟩ := hv.form hN
  have hvF : ∀ W, Below w.heap.size w W → ReadsT eE 3 W (.slice a N cap) l := fun W hb => hv.up hb
  have hsF : ∀ W, Below w.heap.size w W → Start W := fun W hb => hs.up hb
  clear hs
  by_cases h30 : 30 < N
  · refine X.fn Tryd.func6 rfl (n := 67) rfl rfl ?_
    refine CC.seq ?_
    refine CC.region ?_
    refine LL.val (R.assign rfl rfl) rfl rfl rfl ?_
    refine LL.nilS ?_
    refine CC.seq ?_
    refine CC.seq ?_
    refine CC.region ?_
    refine LL.val (R.move rfl rfl) rfl rfl rfl ?_
    refine LL.val (R.len rfl rfl rfl rfl) rfl rfl rfl ?_
    refine LL.val (R.gtT rfl rfl rfl (by omega)) rfl rfl rfl ?_
    refine LL.nilS ?_
    refine CC.yes rfl ?_
    refine CC.seq ?_
    refine CC.region ?_
    refine LL.call (R.call rfl rfl rfl) rfl rfl rfl (works_any _ (hsF _ q)) ?_
    rintro e W2 ⟨rfl, b1⟩
    refine ⟨_, rfl, ?_⟩
    have zb1 := b1.size
    replace q := q.trans (b1.mono q.size)
    replace hv := hv.up b1
    refine LL.val (R.assign rfl rfl) rfl rfl rfl ?_
    refine LL.nilS ?_
    refine CC.ret ?_
    refine EE.thenR ?_
    refine EE.ret _ rfl rfl ?_
    exact ⟨rfl, q⟩
  have hlen : l.length ≤ 1048576 := by omega
  by_cases hb : vL l ∧ 0 ≤ B ∧ B ≤ 128
  case neg =>
    have hbad : ¬vL l ∨ B < 0 ∨ 128 < B := by
      by_cases hl : vL l
      · by_cases h0 : B < 0
        · exact .inr (.inl h0)
        · by_cases h1 : 128 < B
          · exact .inr (.inr h1)
          · exact absurd ⟨hl, by omega, by omega⟩ hb
      · exact .inl hl
    refine X.fn Tryd.func6 rfl (n := 67) rfl rfl ?_
    refine CC.seq ?_
    refine CC.region ?_
    refine LL.val (R.assign rfl rfl) rfl rfl rfl ?_
    refine LL.nilS ?_
    refine CC.seq ?_
    refine CC.seq ?_
    refine CC.region ?_
    refine LL.val (R.move rfl rfl) rfl rfl rfl ?_
    refine LL.val (R.len rfl rfl rfl rfl) rfl rfl rfl ?_
    refine LL.val (R.gtF rfl rfl rfl (by omega)) rfl rfl rfl ?_
    refine LL.nilS ?_
    refine CC.no rfl ?_
    refine CC.skip ?_
    refine EE.thenN ?_
    refine CC.seq ?_
    refine CC.region ?_
    refine LL.val (R.move rfl rfl) rfl rfl rfl ?_
    refine LL.call (R.call rfl rfl rfl) rfl rfl rfl (lent_n l _ _ _ (hvF _ q) hlen hN) ?_
    rintro e Wa2 ⟨ga4, va7, rfl, oa6, ha3, la5, ba1⟩
    refine ⟨_, rfl, ?_⟩
    have zba1 := ba1.size
    replace q := q.trans (ba1.mono q.size)
    replace hv := hv.up ba1
    refine LL.val (R.assign rfl rfl) rfl rfl rfl ?_
    refine LL.nilS ?_
    refine CC.seq ?_
    refine CC.region ?_
    refine LL.val (R.move rfl rfl) rfl rfl rfl ?_
    refine LL.val (R.move rfl rfl) rfl rfl rfl ?_
    refine LL.call (R.call rfl rfl rfl) rfl rfl rfl (cut_bad l _ _ _ (by first | assumption | omega) hlen hbad) ?_
    rintro e Wa10 ⟨rfl, ba9⟩
    refine ⟨_, rfl, ?_⟩
    have zba9 := ba9.size
    replace oa6 := oa6.up ba9
    replace ha3 := ha3.up ba9
    replace ba1 := ba1.trans (ba9.mono ba1.size)
    replace q := q.trans (ba9.mono q.size)
    replace hv := hv.up ba9
    refine LL.val (R.move rfl rfl) rfl rfl rfl ?_
    refine LL.val (R.extract rfl rfl rfl) rfl rfl rfl ?_
    refine LL.val (R.extract rfl rfl rfl) rfl rfl rfl ?_
    refine LL.val (R.extract rfl rfl rfl) rfl rfl rfl ?_
    refine LL.val (R.assign rfl rfl) rfl rfl rfl ?_
    refine LL.val (R.assign rfl rfl) rfl rfl rfl ?_
    refine LL.val (R.assign rfl rfl) rfl rfl rfl ?_
    refine LL.nilS ?_
    refine CC.seq ?_
    refine CC.region ?_
    refine LL.val (R.move rfl rfl) rfl rfl rfl ?_
    refine LL.val (R.move rfl rfl) rfl rfl rfl ?_
    refine LL.call (R.call rfl rfl rfl) rfl rfl rfl (rcut_bad l _ _ _ (hvF _ q) hlen hbad) ?_
    rintro e Wa13 ⟨rfl, ba12⟩
    refine ⟨_, rfl, ?_⟩
    have zba12 := ba12.size
    replace ba9 := ba9.trans (ba12.mono ba9.size)
    replace oa6 := oa6.up ba12
    replace ha3 := ha3.up ba12
    replace ba1 := ba1.trans (ba12.mono ba1.size)
    replace q := q.trans (ba12.mono q.size)
    replace hv := hv.up ba12
    refine LL.val (R.move rfl rfl) rfl rfl rfl ?_
    refine LL.val (R.extract rfl rfl rfl) rfl rfl rfl ?_
    refine LL.val (R.extract rfl rfl rfl) rfl rfl rfl ?_
    refine LL.val (R.extract rfl rfl rfl) rfl rfl rfl ?_
    refine LL.val (R.assign rfl rfl) rfl rfl rfl ?_
    refine LL.val (R.assign rfl rfl) rfl rfl rfl ?_
    refine LL.val (R.assign rfl rfl) rfl rfl rfl ?_
    refine LL.nilS ?_
    refine CC.seq ?_
    refine CC.region ?_
    refine LL.val (R.move rfl rfl) rfl rfl rfl ?_
    refine LL.val (R.move rfl rfl) rfl rfl rfl ?_
    refine LL.call (R.call rfl rfl rfl) rfl rfl rfl (slist_N _) ?_
    rintro e Wa16 ⟨rfl, ba15⟩
    refine ⟨_, rfl, ?_⟩
    have zba15 := ba15.size
    replace ba12 := ba12.trans (ba15.mono ba12.size)
    replace ba9 := ba9.trans (ba15.mono ba9.size)
    replace oa6 := oa6.up ba15
    replace ha3 := ha3.up ba15
    replace ba1 := ba1.trans (ba15.mono ba1.size)
    replace q := q.trans (ba15.mono q.size)
    replace hv := hv.up ba15
    refine LL.val (R.move rfl rfl) rfl rfl rfl ?_
    refine LL.val (R.move rfl rfl) rfl rfl rfl ?_
    refine LL.val (R.move rfl rfl) rfl rfl rfl ?_
    refine LL.call (R.call rfl rfl rfl) rfl rfl rfl (sruns_N _) ?_
    rintro e Wa19 ⟨rfl, ba18⟩
    refine ⟨_, rfl, ?_⟩
    have zba18 := ba18.size
    replace ba15 := ba15.trans (ba18.mono ba15.size)
    replace ba12 := ba12.trans (ba18.mono ba12.size)
    replace ba9 := ba9.trans (ba18.mono ba9.size)
    replace oa6 := oa6.up ba18
    replace ha3 := ha3.up ba18
    replace ba1 := ba1.trans (ba18.mono ba1.size)
    replace q := q.trans (ba18.mono q.size)
    replace hv := hv.up ba18
    refine LL.val (R.pick rfl rfl rfl) rfl rfl rfl ?_
    refine LL.val (R.move rfl rfl) rfl rfl rfl ?_
    refine LL.val (R.move rfl rfl) rfl rfl rfl ?_
    refine LL.call (R.call rfl rfl rfl) rfl rfl rfl (num_any _ _) ?_
    rintro e W' ⟨rfl, rfl⟩
    refine ⟨_, rfl, ?_⟩
    refine LL.val (R.move rfl rfl) rfl rfl rfl ?_
    refine LL.val (R.eqT rfl rfl rfl (by omega)) rfl rfl rfl ?_
    refine LL.val (R.pick rfl rfl rfl) rfl rfl rfl ?_
    refine LL.val (R.move rfl rfl) rfl rfl rfl ?_
    refine LL.val (R.move rfl rfl) rfl rfl rfl ?_
    refine LL.val (R.move rfl rfl) rfl rfl rfl ?_
    refine LL.call (R.call rfl rfl rfl) rfl rfl rfl (slist_T _ _ _ _ (by first | assumption | omega) (by first | assumption | omega) (by first | assumption | omega)) ?_
    rintro e Wa22 ⟨rfl, ba21⟩
    refine ⟨_, rfl, ?_⟩
    have zba21 := ba21.size
    replace ba18 := ba18.trans (ba21.mono ba18.size)
    replace ba15 := ba15.trans (ba21.mono ba15.size)
    replace ba12 := ba12.trans (ba21.mono ba12.size)
    replace ba9 := ba9.trans (ba21.mono ba9.size)
    replace oa6 := oa6.up ba21
    replace ha3 := ha3.up ba21
    replace ba1 := ba1.trans (ba21.mono ba1.size)
    replace q := q.trans (ba21.mono q.size)
    replace hv := hv.up ba21
    refine LL.val (R.pick rfl rfl rfl) rfl rfl rfl ?_
    refine LL.val (R.move rfl rfl) rfl rfl rfl ?_
    refine LL.val (R.move rfl rfl) rfl rfl rfl ?_
    refine LL.val (R.move rfl rfl) rfl rfl rfl ?_
    refine LL.val (R.len rfl rfl rfl rfl) rfl rfl rfl ?_
    refine LL.val (R.addNc rfl rfl rfl rfl (by omega)) rfl rfl rfl ?_
    refine LL.val (R.slice rfl rfl rfl rfl rfl (I.slTo rfl (by omega))) rfl rfl rfl ?_
    refine LL.val (R.move rfl rfl) rfl rfl rfl ?_
    refine LL.val (R.len rfl rfl rfl rfl) rfl rfl rfl ?_
    refine LL.val (R.index rfl rfl rfl (I.ixS rfl (by omega))) rfl rfl rfl ?_
    refine LL.val (R.field rfl rfl (I.fld rfl)) rfl rfl rfl ?_
    have c1 := lent_c (l := l) (N := N) (by assumption) hN
    refine LL.val (R.load rfl rfl (I.ld1 rfl (by assumption))) rfl rfl rfl ?_
    refine LL.val (R.eqT rfl rfl rfl (by omega)) rfl rfl rfl ?_
    refine LL.val (R.pick rfl rfl rfl) rfl rfl rfl ?_
    refine LL.val (R.move rfl rfl) rfl rfl rfl ?_
    refine LL.call (R.call rfl rfl rfl) rfl rfl rfl (works_any _ (hsF _ q)) ?_
    rintro e Wb2 ⟨rfl, bb1⟩
    refine ⟨_, rfl, ?_⟩
    have zbb1 := bb1.size
    replace ba21 := ba21.trans (bb1.mono ba21.size)
    replace ba18 := ba18.trans (bb1.mono ba18.size)
    replace ba15 := ba15.trans (bb1.mono ba15.size)
    replace ba12 := ba12.trans (bb1.mono ba12.size)
    replace ba9 := ba9.trans (bb1.mono ba9.size)
    replace oa6 := oa6.up bb1
    replace ha3 := ha3.up bb1
    replace ba1 := ba1.trans (bb1.mono ba1.size)
    replace q := q.trans (bb1.mono q.size)
    replace hv := hv.up bb1
    replace c1 := cell_up c1 bb1
    refine LL.val (R.pick rfl rfl rfl) rfl rfl rfl ?_
    refine LL.val (R.assign rfl rfl) rfl rfl rfl ?_
    refine LL.nilS ?_
    refine CC.ret ?_
    refine EE.ret _ rfl rfl ?_
    exact ⟨rfl, q⟩
  obtain ⟨hl, h0, h1⟩ := hb
  obtain ⟨f, rfl⟩ := Int.eq_ofNat_of_zero_le h0
  have hf : f ≤ 128 := by omega
  have hd1 := dvF_len (plL l) f (128 - f)
  have hd2 := gatR_len (dvF (plL l) f (128 - f))
  have hd3 := gat_len (nz (zerN (plL l) f (128 - f)))
  have hd4 : (nz (zerN (plL l) f (128 - f))).length ≤ 128 := nzF_len _ _
  have e1 : (gatR (dvF (plL l) f (128 - f))).length ≤ 1048576 := by omega
  have e2 : (gat (nz (zerN (plL l) f (128 - f)))).length ≤ 1048576 := by omega
  refine X.fn Tryd.func6 rfl (n := 67) rfl rfl ?_
  refine CC.seq ?_
  refine CC.region ?_
  refine LL.val (R.assign rfl rfl) rfl rfl rfl ?_
  refine LL.nilS ?_
  refine CC.seq ?_
  refine CC.seq ?_
  refine CC.region ?_
  refine LL.val (R.move rfl rfl) rfl rfl rfl ?_
  refine LL.val (R.len rfl rfl rfl rfl) rfl rfl rfl ?_
  refine LL.val (R.gtF rfl rfl rfl (by omega)) rfl rfl rfl ?_
  refine LL.nilS ?_
  refine CC.no rfl ?_
  refine CC.skip ?_
  refine EE.thenN ?_
  refine CC.seq ?_
  refine CC.region ?_
  refine LL.val (R.move rfl rfl) rfl rfl rfl ?_
  refine LL.call (R.call rfl rfl rfl) rfl rfl rfl (lent_n l _ _ _ (hvF _ q) hlen hN) ?_
  rintro e Wc2 ⟨gc4, vc7, rfl, oc6, hc3, lc5, bc1⟩
  refine ⟨_, rfl, ?_⟩
  have zbc1 := bc1.size
  replace q := q.trans (bc1.mono q.size)
  replace hv := hv.up bc1
  refine LL.val (R.assign rfl rfl) rfl rfl rfl ?_
  refine LL.nilS ?_
  refine CC.seq ?_
  refine CC.region ?_
  refine LL.val (R.move rfl rfl) rfl rfl rfl ?_
  refine LL.val (R.move rfl rfl) rfl rfl rfl ?_
  refine LL.call (R.call rfl rfl rfl) rfl rfl rfl (cut_T (l := l) _ _ _ (by first | assumption | omega) hl hf) ?_
  rintro e Wc10 ⟨vc13, xc14, rfl, hc11, rc12, bc9⟩
  refine ⟨_, rfl, ?_⟩
  have zbc9 := bc9.size
  replace oc6 := oc6.up bc9
  replace hc3 := hc3.up bc9
  replace bc1 := bc1.trans (bc9.mono bc1.size)
  replace q := q.trans (bc9.mono q.size)
  replace hv := hv.up bc9
  refine LL.val (R.move rfl rfl) rfl rfl rfl ?_
  refine LL.val (R.extract rfl rfl rfl) rfl rfl rfl ?_
  refine LL.val (R.extract rfl rfl rfl) rfl rfl rfl ?_
  refine LL.val (R.extract rfl rfl rfl) rfl rfl rfl ?_
  refine LL.val (R.assign rfl rfl) rfl rfl rfl ?_
  refine LL.val (R.assign rfl rfl) rfl rfl rfl ?_
  refine LL.val (R.assign rfl rfl) rfl rfl rfl ?_
  refine LL.nilS ?_
  refine CC.seq ?_
  refine CC.region ?_
  refine LL.val (R.move rfl rfl) rfl rfl rfl ?_
  refine LL.val (R.move rfl rfl) rfl rfl rfl ?_
  refine LL.call (R.call rfl rfl rfl) rfl rfl rfl (rcut_any l _ _ _ (hvF _ q) hl hf) ?_
  rintro e Wc17 ⟨vc20, xc21, rfl, hc18, rc19, bc16⟩
  refine ⟨_, rfl, ?_⟩
  have zbc16 := bc16.size
  replace hc11 := hc11.up bc16
  replace rc12 := rc12.up bc16
  replace bc9 := bc9.trans (bc16.mono bc9.size)
  replace oc6 := oc6.up bc16
  replace hc3 := hc3.up bc16
  replace bc1 := bc1.trans (bc16.mono bc1.size)
  replace q := q.trans (bc16.mono q.size)
  replace hv := hv.up bc16
  refine LL.val (R.move rfl rfl) rfl rfl rfl ?_
  refine LL.val (R.extract rfl rfl rfl) rfl rfl rfl ?_
  refine LL.val (R.extract rfl rfl rfl) rfl rfl rfl ?_
  refine LL.val (R.extract rfl rfl rfl) rfl rfl rfl ?_
  refine LL.val (R.assign rfl rfl) rfl rfl rfl ?_
  refine LL.val (R.assign rfl rfl) rfl rfl rfl ?_
  refine LL.val (R.assign rfl rfl) rfl rfl rfl ?_
  refine LL.nilS ?_
  refine CC.seq ?_
  refine CC.region ?_
  refine LL.val (R.move rfl rfl) rfl rfl rfl ?_
  refine LL.val (R.move rfl rfl) rfl rfl rfl ?_
  refine LL.call (R.call rfl rfl rfl) rfl rfl rfl (slist_T _ _ _ _ (by first | assumption | omega) (by first | assumption | omega) (by first | assumption | omega)) ?_
  rintro e Wc24 ⟨rfl, bc23⟩
  refine ⟨_, rfl, ?_⟩
  have zbc23 := bc23.size
  replace hc18 := hc18.up bc23
  replace rc19 := rc19.up bc23
  replace bc16 := bc16.trans (bc23.mono bc16.size)
  replace hc11 := hc11.up bc23
  replace rc12 := rc12.up bc23
  replace bc9 := bc9.trans (bc23.mono bc9.size)
  replace oc6 := oc6.up bc23
  replace hc3 := hc3.up bc23
  replace bc1 := bc1.trans (bc23.mono bc1.size)
  replace q := q.trans (bc23.mono q.size)
  replace hv := hv.up bc23
  refine LL.val (R.move rfl rfl) rfl rfl rfl ?_
  refine LL.val (R.move rfl rfl) rfl rfl rfl ?_
  refine LL.val (R.move rfl rfl) rfl rfl rfl ?_
  refine LL.call (R.call rfl rfl rfl) rfl rfl rfl (sruns_T _ _ _ _ (by first | assumption | omega) (by first | assumption | omega) (by first | assumption | omega)) ?_
  rintro e Wc27 ⟨rfl, bc26⟩
  refine ⟨_, rfl, ?_⟩
  have zbc26 := bc26.size
  replace bc23 := bc23.trans (bc26.mono bc23.size)
  replace hc18 := hc18.up bc26
  replace rc19 := rc19.up bc26
  replace bc16 := bc16.trans (bc26.mono bc16.size)
  replace hc11 := hc11.up bc26
  replace rc12 := rc12.up bc26
  replace bc9 := bc9.trans (bc26.mono bc9.size)
  replace oc6 := oc6.up bc26
  replace hc3 := hc3.up bc26
  replace bc1 := bc1.trans (bc26.mono bc1.size)
  replace q := q.trans (bc26.mono q.size)
  replace hv := hv.up bc26
  refine LL.val (R.pick rfl rfl rfl) rfl rfl rfl ?_
  refine LL.val (R.move rfl rfl) rfl rfl rfl ?_
  refine LL.val (R.move rfl rfl) rfl rfl rfl ?_
  refine LL.call (R.call rfl rfl rfl) rfl rfl rfl (num_any _ _) ?_
  rintro e W' ⟨rfl, rfl⟩
  refine ⟨_, rfl, ?_⟩
  refine LL.val (R.move rfl rfl) rfl rfl rfl ?_
  refine LL.val (R.eqT rfl rfl rfl (by omega)) rfl rfl rfl ?_
  refine LL.val (R.pick rfl rfl rfl) rfl rfl rfl ?_
  refine LL.val (R.move rfl rfl) rfl rfl rfl ?_
  refine LL.val (R.move rfl rfl) rfl rfl rfl ?_
  refine LL.val (R.move rfl rfl) rfl rfl rfl ?_
  refine LL.call (R.call rfl rfl rfl) rfl rfl rfl (slist_T _ _ _ _ (by first | assumption | omega) (by first | assumption | omega) (by first | assumption | omega)) ?_
  rintro e Wc30 ⟨rfl, bc29⟩
  refine ⟨_, rfl, ?_⟩
  have zbc29 := bc29.size
  replace bc26 := bc26.trans (bc29.mono bc26.size)
  replace bc23 := bc23.trans (bc29.mono bc23.size)
  replace hc18 := hc18.up bc29
  replace rc19 := rc19.up bc29
  replace bc16 := bc16.trans (bc29.mono bc16.size)
  replace hc11 := hc11.up bc29
  replace rc12 := rc12.up bc29
  replace bc9 := bc9.trans (bc29.mono bc9.size)
  replace oc6 := oc6.up bc29
  replace hc3 := hc3.up bc29
  replace bc1 := bc1.trans (bc29.mono bc1.size)
  replace q := q.trans (bc29.mono q.size)
  replace hv := hv.up bc29
  refine LL.val (R.pick rfl rfl rfl) rfl rfl rfl ?_
  refine LL.val (R.move rfl rfl) rfl rfl rfl ?_
  refine LL.val (R.move rfl rfl) rfl rfl rfl ?_
  refine LL.val (R.move rfl rfl) rfl rfl rfl ?_
  refine LL.val (R.len rfl rfl rfl rfl) rfl rfl rfl ?_
  refine LL.val (R.addNc rfl rfl rfl rfl (by omega)) rfl rfl rfl ?_
  refine LL.val (R.slice rfl rfl rfl rfl rfl (I.slTo rfl (by omega))) rfl rfl rfl ?_
  refine LL.val (R.move rfl rfl) rfl rfl rfl ?_
  refine LL.val (R.len rfl rfl rfl rfl) rfl rfl rfl ?_
  refine LL.val (R.index rfl rfl rfl (I.ixS rfl (by omega))) rfl rfl rfl ?_
  refine LL.val (R.field rfl rfl (I.fld rfl)) rfl rfl rfl ?_
  have c1 := lent_c (l := l) (N := N) (by assumption) hN
  refine LL.val (R.load rfl rfl (I.ld1 rfl (by assumption))) rfl rfl rfl ?_
  refine LL.val (R.eqT rfl rfl rfl (by omega)) rfl rfl rfl ?_
  refine LL.val (R.pick rfl rfl rfl) rfl rfl rfl ?_
  refine LL.val (R.move rfl rfl) rfl rfl rfl ?_
  refine LL.call (R.call rfl rfl rfl) rfl rfl rfl (works_any _ (hsF _ q)) ?_
  rintro e Wd2 ⟨rfl, bd1⟩
  refine ⟨_, rfl, ?_⟩
  have zbd1 := bd1.size
  replace bc29 := bc29.trans (bd1.mono bc29.size)
  replace bc26 := bc26.trans (bd1.mono bc26.size)
  replace bc23 := bc23.trans (bd1.mono bc23.size)
  replace hc18 := hc18.up bd1
  replace rc19 := rc19.up bd1
  replace bc16 := bc16.trans (bd1.mono bc16.size)
  replace hc11 := hc11.up bd1
  replace rc12 := rc12.up bd1
  replace bc9 := bc9.trans (bd1.mono bc9.size)
  replace oc6 := oc6.up bd1
  replace hc3 := hc3.up bd1
  replace bc1 := bc1.trans (bd1.mono bc1.size)
  replace q := q.trans (bd1.mono q.size)
  replace hv := hv.up bd1
  replace c1 := cell_up c1 bd1
  refine LL.val (R.pick rfl rfl rfl) rfl rfl rfl ?_
  refine LL.val (R.assign rfl rfl) rfl rfl rfl ?_
  refine LL.nilS ?_
  refine CC.ret ?_
  refine EE.ret _ rfl rfl ?_
  exact ⟨rfl, q⟩
set_option maxRecDepth 100000 in
set_option maxHeartbeats 8000000 in
theorem putsx_walk (v : Value) (l : List Ex) (x : Ex) (w : World) (hs : Start w) (hv : ReadsT eE 3 w v l) : Calls Tryd.prog 5 #[v, exV x] w fun e w' => e = .returned (.bool true) ∧ Below w.heap.size w w' := by
  have q := Below.refl w.heap.size w
  obtain ⟨N, hN⟩ : ∃ N, l.length = N := ⟨_, rfl⟩
  obtain ⟨a, cap, rfl, hcap⟩ := hv.form hN
  have hvF : ∀ W, Below w.heap.size w W → ReadsT eE 3 W (.slice a N cap) l := fun W hb => hv.up hb
  have hsF : ∀ W, Below w.heap.size w W → Start W := fun W hb => hs.up hb
  clear hs
  by_cases h30 : 30 < N
  · refine X.fn Tryd.func5 rfl (n := 67) rfl rfl ?_
    refine CC.seq ?_
    refine CC.region ?_
    refine LL.box [Value.int IntKind.i64 x.1, Value.int IntKind.i64 x.2.1, Value.int IntKind.i64 x.2.2] rfl rfl rfl rfl rfl ?_
    intro W2 g3 eg3 r4 z5 b1
    replace q := q.trans (b1.mono q.size)
    replace hv := hv.up b1
    refine LL.val (R.assign rfl rfl) rfl rfl rfl ?_
    refine LL.nilS ?_
    refine CC.seq ?_
    refine CC.seq ?_
    refine CC.region ?_
    refine LL.val (R.move rfl rfl) rfl rfl rfl ?_
    refine LL.val (R.len rfl rfl rfl rfl) rfl rfl rfl ?_
    refine LL.val (R.gtT rfl rfl rfl (by omega)) rfl rfl rfl ?_
    refine LL.nilS ?_
    refine CC.yes rfl ?_
    refine CC.seq ?_
    refine CC.region ?_
    refine LL.call (R.call rfl rfl rfl) rfl rfl rfl (works_any _ (hsF _ q)) ?_
    rintro e W7 ⟨rfl, b6⟩
    refine ⟨_, rfl, ?_⟩
    have zb6 := b6.size
    replace r4 := r4.up b6
    replace b1 := b1.trans (b6.mono b1.size)
    replace q := q.trans (b6.mono q.size)
    replace hv := hv.up b6
    refine LL.val (R.assign rfl rfl) rfl rfl rfl ?_
    refine LL.nilS ?_
    refine CC.ret ?_
    refine EE.thenR ?_
    refine EE.ret _ rfl rfl ?_
    exact ⟨rfl, q⟩
  have hlen : l.length ≤ 1048576 := by omega
  by_cases hok : okPut l x
  case neg =>
    have hno := hok
    clear hok
    refine X.fn Tryd.func5 rfl (n := 67) rfl rfl ?_
    refine CC.seq ?_
    refine CC.region ?_
    refine LL.box [Value.int IntKind.i64 x.1, Value.int IntKind.i64 x.2.1, Value.int IntKind.i64 x.2.2] rfl rfl rfl rfl rfl ?_
    intro Wa2 ga3 ega3 ra4 za5 ba1
    replace q := q.trans (ba1.mono q.size)
    replace hv := hv.up ba1
    refine LL.val (R.assign rfl rfl) rfl rfl rfl ?_
    refine LL.nilS ?_
    refine CC.seq ?_
    refine CC.seq ?_
    refine CC.region ?_
    refine LL.val (R.move rfl rfl) rfl rfl rfl ?_
    refine LL.val (R.len rfl rfl rfl rfl) rfl rfl rfl ?_
    refine LL.val (R.gtF rfl rfl rfl (by omega)) rfl rfl rfl ?_
    refine LL.nilS ?_
    refine CC.no rfl ?_
    refine CC.skip ?_
    refine EE.thenN ?_
    refine CC.seq ?_
    refine CC.region ?_
    refine LL.val (R.move rfl rfl) rfl rfl rfl ?_
    refine LL.call (R.call rfl rfl rfl) rfl rfl rfl (lent_n l _ _ _ (hvF _ q) hlen hN) ?_
    rintro e Wa7 ⟨ga9, va12, rfl, oa11, ha8, la10, ba6⟩
    refine ⟨_, rfl, ?_⟩
    have zba6 := ba6.size
    replace ra4 := ra4.up ba6
    replace ba1 := ba1.trans (ba6.mono ba1.size)
    replace q := q.trans (ba6.mono q.size)
    replace hv := hv.up ba6
    refine LL.val (R.assign rfl rfl) rfl rfl rfl ?_
    refine LL.nilS ?_
    refine CC.seq ?_
    refine CC.region ?_
    refine LL.val (R.move rfl rfl) rfl rfl rfl ?_
    refine LL.val (R.load rfl rfl (I.ldNc (vs := [Value.int IntKind.i64 x.1, Value.int IntKind.i64 x.2.1, Value.int IntKind.i64 x.2.2]) (RowL.cells ra4 rfl) (by rfl) (by rfl))) rfl rfl rfl ?_
    refine LL.call (R.call rfl rfl rfl) rfl rfl rfl (put_F (l := l) x _ _ (by first | assumption | omega) hlen hno) ?_
    rintro e Wa15 ⟨rfl, ba14⟩
    refine ⟨_, rfl, ?_⟩
    have zba14 := ba14.size
    replace oa11 := oa11.up ba14
    replace ha8 := ha8.up ba14
    replace ba6 := ba6.trans (ba14.mono ba6.size)
    replace ra4 := ra4.up ba14
    replace ba1 := ba1.trans (ba14.mono ba1.size)
    replace q := q.trans (ba14.mono q.size)
    replace hv := hv.up ba14
    refine LL.val (R.move rfl rfl) rfl rfl rfl ?_
    refine LL.val (R.extract rfl rfl rfl) rfl rfl rfl ?_
    refine LL.val (R.extract rfl rfl rfl) rfl rfl rfl ?_
    refine LL.val (R.extract rfl rfl rfl) rfl rfl rfl ?_
    refine LL.val (R.assign rfl rfl) rfl rfl rfl ?_
    refine LL.val (R.assign rfl rfl) rfl rfl rfl ?_
    refine LL.val (R.assign rfl rfl) rfl rfl rfl ?_
    refine LL.nilS ?_
    refine CC.seq ?_
    refine CC.region ?_
    refine LL.val (R.move rfl rfl) rfl rfl rfl ?_
    refine LL.val (R.load rfl rfl (I.ldNc (vs := [Value.int IntKind.i64 x.1, Value.int IntKind.i64 x.2.1, Value.int IntKind.i64 x.2.2]) (RowL.cells ra4 rfl) (by rfl) (by rfl))) rfl rfl rfl ?_
    refine LL.call (R.call rfl rfl rfl) rfl rfl rfl (rput_F (l := l) x _ _ (hvF _ q) hlen hno) ?_
    rintro e Wa18 ⟨rfl, ba17⟩
    refine ⟨_, rfl, ?_⟩
    have zba17 := ba17.size
    replace ba14 := ba14.trans (ba17.mono ba14.size)
    replace oa11 := oa11.up ba17
    replace ha8 := ha8.up ba17
    replace ba6 := ba6.trans (ba17.mono ba6.size)
    replace ra4 := ra4.up ba17
    replace ba1 := ba1.trans (ba17.mono ba1.size)
    replace q := q.trans (ba17.mono q.size)
    replace hv := hv.up ba17
    refine LL.val (R.move rfl rfl) rfl rfl rfl ?_
    refine LL.val (R.extract rfl rfl rfl) rfl rfl rfl ?_
    refine LL.val (R.extract rfl rfl rfl) rfl rfl rfl ?_
    refine LL.val (R.extract rfl rfl rfl) rfl rfl rfl ?_
    refine LL.val (R.assign rfl rfl) rfl rfl rfl ?_
    refine LL.val (R.assign rfl rfl) rfl rfl rfl ?_
    refine LL.val (R.assign rfl rfl) rfl rfl rfl ?_
    refine LL.nilS ?_
    refine CC.seq ?_
    refine CC.region ?_
    refine LL.val (R.move rfl rfl) rfl rfl rfl ?_
    refine LL.val (R.move rfl rfl) rfl rfl rfl ?_
    refine LL.call (R.call rfl rfl rfl) rfl rfl rfl (slist_N _) ?_
    rintro e Wa21 ⟨rfl, ba20⟩
    refine ⟨_, rfl, ?_⟩
    have zba20 := ba20.size
    replace ba17 := ba17.trans (ba20.mono ba17.size)
    replace ba14 := ba14.trans (ba20.mono ba14.size)
    replace oa11 := oa11.up ba20
    replace ha8 := ha8.up ba20
    replace ba6 := ba6.trans (ba20.mono ba6.size)
    replace ra4 := ra4.up ba20
    replace ba1 := ba1.trans (ba20.mono ba1.size)
    replace q := q.trans (ba20.mono q.size)
    replace hv := hv.up ba20
    refine LL.val (R.move rfl rfl) rfl rfl rfl ?_
    refine LL.val (R.move rfl rfl) rfl rfl rfl ?_
    refine LL.val (R.move rfl rfl) rfl rfl rfl ?_
    refine LL.call (R.call rfl rfl rfl) rfl rfl rfl (sruns_N _) ?_
    rintro e Wa24 ⟨rfl, ba23⟩
    refine ⟨_, rfl, ?_⟩
    have zba23 := ba23.size
    replace ba20 := ba20.trans (ba23.mono ba20.size)
    replace ba17 := ba17.trans (ba23.mono ba17.size)
    replace ba14 := ba14.trans (ba23.mono ba14.size)
    replace oa11 := oa11.up ba23
    replace ha8 := ha8.up ba23
    replace ba6 := ba6.trans (ba23.mono ba6.size)
    replace ra4 := ra4.up ba23
    replace ba1 := ba1.trans (ba23.mono ba1.size)
    replace q := q.trans (ba23.mono q.size)
    replace hv := hv.up ba23
    refine LL.val (R.pick rfl rfl rfl) rfl rfl rfl ?_
    refine LL.val (R.move rfl rfl) rfl rfl rfl ?_
    refine LL.val (R.move rfl rfl) rfl rfl rfl ?_
    refine LL.call (R.call rfl rfl rfl) rfl rfl rfl (num_any _ _) ?_
    rintro e W' ⟨rfl, rfl⟩
    refine ⟨_, rfl, ?_⟩
    refine LL.val (R.move rfl rfl) rfl rfl rfl ?_
    refine LL.val (R.eqT rfl rfl rfl (by omega)) rfl rfl rfl ?_
    refine LL.val (R.pick rfl rfl rfl) rfl rfl rfl ?_
    refine LL.val (R.move rfl rfl) rfl rfl rfl ?_
    refine LL.val (R.move rfl rfl) rfl rfl rfl ?_
    refine LL.val (R.move rfl rfl) rfl rfl rfl ?_
    refine LL.call (R.call rfl rfl rfl) rfl rfl rfl (slist_T _ _ _ _ (by first | assumption | omega) (by first | assumption | omega) (by first | assumption | omega)) ?_
    rintro e Wa27 ⟨rfl, ba26⟩
    refine ⟨_, rfl, ?_⟩
    have zba26 := ba26.size
    replace ba23 := ba23.trans (ba26.mono ba23.size)
    replace ba20 := ba20.trans (ba26.mono ba20.size)
    replace ba17 := ba17.trans (ba26.mono ba17.size)
    replace ba14 := ba14.trans (ba26.mono ba14.size)
    replace oa11 := oa11.up ba26
    replace ha8 := ha8.up ba26
    replace ba6 := ba6.trans (ba26.mono ba6.size)
    replace ra4 := ra4.up ba26
    replace ba1 := ba1.trans (ba26.mono ba1.size)
    replace q := q.trans (ba26.mono q.size)
    replace hv := hv.up ba26
    refine LL.val (R.pick rfl rfl rfl) rfl rfl rfl ?_
    refine LL.val (R.move rfl rfl) rfl rfl rfl ?_
    refine LL.val (R.move rfl rfl) rfl rfl rfl ?_
    refine LL.val (R.move rfl rfl) rfl rfl rfl ?_
    refine LL.val (R.len rfl rfl rfl rfl) rfl rfl rfl ?_
    refine LL.val (R.addNc rfl rfl rfl rfl (by omega)) rfl rfl rfl ?_
    refine LL.val (R.slice rfl rfl rfl rfl rfl (I.slTo rfl (by omega))) rfl rfl rfl ?_
    refine LL.val (R.move rfl rfl) rfl rfl rfl ?_
    refine LL.val (R.len rfl rfl rfl rfl) rfl rfl rfl ?_
    refine LL.val (R.index rfl rfl rfl (I.ixS rfl (by omega))) rfl rfl rfl ?_
    refine LL.val (R.field rfl rfl (I.fld rfl)) rfl rfl rfl ?_
    have c1 := lent_c (l := l) (N := N) (by assumption) hN
    refine LL.val (R.load rfl rfl (I.ld1 rfl (by assumption))) rfl rfl rfl ?_
    refine LL.val (R.eqT rfl rfl rfl (by omega)) rfl rfl rfl ?_
    refine LL.val (R.pick rfl rfl rfl) rfl rfl rfl ?_
    refine LL.val (R.move rfl rfl) rfl rfl rfl ?_
    refine LL.call (R.call rfl rfl rfl) rfl rfl rfl (works_any _ (hsF _ q)) ?_
    rintro e Wb2 ⟨rfl, bb1⟩
    refine ⟨_, rfl, ?_⟩
    have zbb1 := bb1.size
    replace ba26 := ba26.trans (bb1.mono ba26.size)
    replace ba23 := ba23.trans (bb1.mono ba23.size)
    replace ba20 := ba20.trans (bb1.mono ba20.size)
    replace ba17 := ba17.trans (bb1.mono ba17.size)
    replace ba14 := ba14.trans (bb1.mono ba14.size)
    replace oa11 := oa11.up bb1
    replace ha8 := ha8.up bb1
    replace ba6 := ba6.trans (bb1.mono ba6.size)
    replace ra4 := ra4.up bb1
    replace ba1 := ba1.trans (bb1.mono ba1.size)
    replace q := q.trans (bb1.mono q.size)
    replace hv := hv.up bb1
    replace c1 := cell_up c1 bb1
    refine LL.val (R.pick rfl rfl rfl) rfl rfl rfl ?_
    refine LL.val (R.assign rfl rfl) rfl rfl rfl ?_
    refine LL.nilS ?_
    refine CC.ret ?_
    refine EE.ret _ rfl rfl ?_
    exact ⟨rfl, q⟩
  obtain ⟨f, d, k, rfl, _⟩ := pkZ_nat hok.2.1
  have hd1 := dvF_len (plL l) f k
  have hd2 := gatR_len (dvF (plL l) f k)
  have hmu := hok.2.1
  unfold mayE at hmu
  simp only at hmu
  have e1 : (gatR (dvF (plL l) f k)).length ≤ 1048576 := by omega
  by_cases hn10 : 10 < (gat (nz (setN (plL l) f d k))).length
  · refine X.fn Tryd.func5 rfl (n := 67) rfl rfl ?_
    refine CC.seq ?_
    refine CC.region ?_
    refine LL.box [Value.int IntKind.i64 ↑f, Value.int IntKind.i64 ↑d, Value.int IntKind.i64 ↑k] rfl rfl rfl rfl rfl ?_
    intro Wc2 gc3 egc3 rc4 zc5 bc1
    replace q := q.trans (bc1.mono q.size)
    replace hv := hv.up bc1
    refine LL.val (R.assign rfl rfl) rfl rfl rfl ?_
    refine LL.nilS ?_
    refine CC.seq ?_
    refine CC.seq ?_
    refine CC.region ?_
    refine LL.val (R.move rfl rfl) rfl rfl rfl ?_
    refine LL.val (R.len rfl rfl rfl rfl) rfl rfl rfl ?_
    refine LL.val (R.gtF rfl rfl rfl (by omega)) rfl rfl rfl ?_
    refine LL.nilS ?_
    refine CC.no rfl ?_
    refine CC.skip ?_
    refine EE.thenN ?_
    refine CC.seq ?_
    refine CC.region ?_
    refine LL.val (R.move rfl rfl) rfl rfl rfl ?_
    refine LL.call (R.call rfl rfl rfl) rfl rfl rfl (lent_n l _ _ _ (hvF _ q) hlen hN) ?_
    rintro e Wc7 ⟨gc9, vc12, rfl, oc11, hc8, lc10, bc6⟩
    refine ⟨_, rfl, ?_⟩
    have zbc6 := bc6.size
    replace rc4 := rc4.up bc6
    replace bc1 := bc1.trans (bc6.mono bc1.size)
    replace q := q.trans (bc6.mono q.size)
    replace hv := hv.up bc6
    refine LL.val (R.assign rfl rfl) rfl rfl rfl ?_
    refine LL.nilS ?_
    refine CC.seq ?_
    refine CC.region ?_
    refine LL.val (R.move rfl rfl) rfl rfl rfl ?_
    refine LL.val (R.load rfl rfl (I.ldNc (vs := [Value.int IntKind.i64 ↑f, Value.int IntKind.i64 ↑d, Value.int IntKind.i64 ↑k]) (RowL.cells rc4 rfl) (by rfl) (by rfl))) rfl rfl rfl ?_
    refine LL.call (R.call rfl rfl rfl) rfl rfl rfl (put_L (l := l) _ _ (by first | assumption | omega) hok hn10) ?_
    rintro e Wc15 ⟨rfl, bc14⟩
    refine ⟨_, rfl, ?_⟩
    have zbc14 := bc14.size
    replace oc11 := oc11.up bc14
    replace hc8 := hc8.up bc14
    replace bc6 := bc6.trans (bc14.mono bc6.size)
    replace rc4 := rc4.up bc14
    replace bc1 := bc1.trans (bc14.mono bc1.size)
    replace q := q.trans (bc14.mono q.size)
    replace hv := hv.up bc14
    refine LL.val (R.move rfl rfl) rfl rfl rfl ?_
    refine LL.val (R.extract rfl rfl rfl) rfl rfl rfl ?_
    refine LL.val (R.extract rfl rfl rfl) rfl rfl rfl ?_
    refine LL.val (R.extract rfl rfl rfl) rfl rfl rfl ?_
    refine LL.val (R.assign rfl rfl) rfl rfl rfl ?_
    refine LL.val (R.assign rfl rfl) rfl rfl rfl ?_
    refine LL.val (R.assign rfl rfl) rfl rfl rfl ?_
    refine LL.nilS ?_
    refine CC.seq ?_
    refine CC.region ?_
    refine LL.val (R.move rfl rfl) rfl rfl rfl ?_
    refine LL.val (R.load rfl rfl (I.ldNc (vs := [Value.int IntKind.i64 ↑f, Value.int IntKind.i64 ↑d, Value.int IntKind.i64 ↑k]) (RowL.cells rc4 rfl) (by rfl) (by rfl))) rfl rfl rfl ?_
    refine LL.call (R.call rfl rfl rfl) rfl rfl rfl (rput_L (l := l) _ _ (hvF _ q) hok hn10) ?_
    rintro e Wc18 ⟨rfl, bc17⟩
    refine ⟨_, rfl, ?_⟩
    have zbc17 := bc17.size
    replace bc14 := bc14.trans (bc17.mono bc14.size)
    replace oc11 := oc11.up bc17
    replace hc8 := hc8.up bc17
    replace bc6 := bc6.trans (bc17.mono bc6.size)
    replace rc4 := rc4.up bc17
    replace bc1 := bc1.trans (bc17.mono bc1.size)
    replace q := q.trans (bc17.mono q.size)
    replace hv := hv.up bc17
    refine LL.val (R.move rfl rfl) rfl rfl rfl ?_
    refine LL.val (R.extract rfl rfl rfl) rfl rfl rfl ?_
    refine LL.val (R.extract rfl rfl rfl) rfl rfl rfl ?_
    refine LL.val (R.extract rfl rfl rfl) rfl rfl rfl ?_
    refine LL.val (R.assign rfl rfl) rfl rfl rfl ?_
    refine LL.val (R.assign rfl rfl) rfl rfl rfl ?_
    refine LL.val (R.assign rfl rfl) rfl rfl rfl ?_
    refine LL.nilS ?_
    refine CC.seq ?_
    refine CC.region ?_
    refine LL.val (R.move rfl rfl) rfl rfl rfl ?_
    refine LL.val (R.move rfl rfl) rfl rfl rfl ?_
    refine LL.call (R.call rfl rfl rfl) rfl rfl rfl (slist_N _) ?_
    rintro e Wc21 ⟨rfl, bc20⟩
    refine ⟨_, rfl, ?_⟩
    have zbc20 := bc20.size
    replace bc17 := bc17.trans (bc20.mono bc17.size)
    replace bc14 := bc14.trans (bc20.mono bc14.size)
    replace oc11 := oc11.up bc20
    replace hc8 := hc8.up bc20
    replace bc6 := bc6.trans (bc20.mono bc6.size)
    replace rc4 := rc4.up bc20
    replace bc1 := bc1.trans (bc20.mono bc1.size)
    replace q := q.trans (bc20.mono q.size)
    replace hv := hv.up bc20
    refine LL.val (R.move rfl rfl) rfl rfl rfl ?_
    refine LL.val (R.move rfl rfl) rfl rfl rfl ?_
    refine LL.val (R.move rfl rfl) rfl rfl rfl ?_
    refine LL.call (R.call rfl rfl rfl) rfl rfl rfl (sruns_N _) ?_
    rintro e Wc24 ⟨rfl, bc23⟩
    refine ⟨_, rfl, ?_⟩
    have zbc23 := bc23.size
    replace bc20 := bc20.trans (bc23.mono bc20.size)
    replace bc17 := bc17.trans (bc23.mono bc17.size)
    replace bc14 := bc14.trans (bc23.mono bc14.size)
    replace oc11 := oc11.up bc23
    replace hc8 := hc8.up bc23
    replace bc6 := bc6.trans (bc23.mono bc6.size)
    replace rc4 := rc4.up bc23
    replace bc1 := bc1.trans (bc23.mono bc1.size)
    replace q := q.trans (bc23.mono q.size)
    replace hv := hv.up bc23
    refine LL.val (R.pick rfl rfl rfl) rfl rfl rfl ?_
    refine LL.val (R.move rfl rfl) rfl rfl rfl ?_
    refine LL.val (R.move rfl rfl) rfl rfl rfl ?_
    refine LL.call (R.call rfl rfl rfl) rfl rfl rfl (num_any _ _) ?_
    rintro e W' ⟨rfl, rfl⟩
    refine ⟨_, rfl, ?_⟩
    refine LL.val (R.move rfl rfl) rfl rfl rfl ?_
    refine LL.val (R.eqT rfl rfl rfl (by omega)) rfl rfl rfl ?_
    refine LL.val (R.pick rfl rfl rfl) rfl rfl rfl ?_
    refine LL.val (R.move rfl rfl) rfl rfl rfl ?_
    refine LL.val (R.move rfl rfl) rfl rfl rfl ?_
    refine LL.val (R.move rfl rfl) rfl rfl rfl ?_
    refine LL.call (R.call rfl rfl rfl) rfl rfl rfl (slist_T _ _ _ _ (by first | assumption | omega) (by first | assumption | omega) (by first | assumption | omega)) ?_
    rintro e Wc27 ⟨rfl, bc26⟩
    refine ⟨_, rfl, ?_⟩
    have zbc26 := bc26.size
    replace bc23 := bc23.trans (bc26.mono bc23.size)
    replace bc20 := bc20.trans (bc26.mono bc20.size)
    replace bc17 := bc17.trans (bc26.mono bc17.size)
    replace bc14 := bc14.trans (bc26.mono bc14.size)
    replace oc11 := oc11.up bc26
    replace hc8 := hc8.up bc26
    replace bc6 := bc6.trans (bc26.mono bc6.size)
    replace rc4 := rc4.up bc26
    replace bc1 := bc1.trans (bc26.mono bc1.size)
    replace q := q.trans (bc26.mono q.size)
    replace hv := hv.up bc26
    refine LL.val (R.pick rfl rfl rfl) rfl rfl rfl ?_
    refine LL.val (R.move rfl rfl) rfl rfl rfl ?_
    refine LL.val (R.move rfl rfl) rfl rfl rfl ?_
    refine LL.val (R.move rfl rfl) rfl rfl rfl ?_
    refine LL.val (R.len rfl rfl rfl rfl) rfl rfl rfl ?_
    refine LL.val (R.addNc rfl rfl rfl rfl (by omega)) rfl rfl rfl ?_
    refine LL.val (R.slice rfl rfl rfl rfl rfl (I.slTo rfl (by omega))) rfl rfl rfl ?_
    refine LL.val (R.move rfl rfl) rfl rfl rfl ?_
    refine LL.val (R.len rfl rfl rfl rfl) rfl rfl rfl ?_
    refine LL.val (R.index rfl rfl rfl (I.ixS rfl (by omega))) rfl rfl rfl ?_
    refine LL.val (R.field rfl rfl (I.fld rfl)) rfl rfl rfl ?_
    have c1 := lent_c (l := l) (N := N) (by assumption) hN
    refine LL.val (R.load rfl rfl (I.ld1 rfl (by assumption))) rfl rfl rfl ?_
    refine LL.val (R.eqT rfl rfl rfl (by omega)) rfl rfl rfl ?_
    refine LL.val (R.pick rfl rfl rfl) rfl rfl rfl ?_
    refine LL.val (R.move rfl rfl) rfl rfl rfl ?_
    refine LL.call (R.call rfl rfl rfl) rfl rfl rfl (works_any _ (hsF _ q)) ?_
    rintro e Wd2 ⟨rfl, bd1⟩
    refine ⟨_, rfl, ?_⟩
    have zbd1 := bd1.size
    replace bc26 := bc26.trans (bd1.mono bc26.size)
    replace bc23 := bc23.trans (bd1.mono bc23.size)
    replace bc20 := bc20.trans (bd1.mono bc20.size)
    replace bc17 := bc17.trans (bd1.mono bc17.size)
    replace bc14 := bc14.trans (bd1.mono bc14.size)
    replace oc11 := oc11.up bd1
    replace hc8 := hc8.up bd1
    replace bc6 := bc6.trans (bd1.mono bc6.size)
    replace rc4 := rc4.up bd1
    replace bc1 := bc1.trans (bd1.mono bc1.size)
    replace q := q.trans (bd1.mono q.size)
    replace hv := hv.up bd1
    replace c1 := cell_up c1 bd1
    refine LL.val (R.pick rfl rfl rfl) rfl rfl rfl ?_
    refine LL.val (R.assign rfl rfl) rfl rfl rfl ?_
    refine LL.nilS ?_
    refine CC.ret ?_
    refine EE.ret _ rfl rfl ?_
    exact ⟨rfl, q⟩
  · have hn : (gat (nz (setN (plL l) f d k))).length ≤ 10 := by omega
    have e2 : (gat (nz (setN (plL l) f d k))).length ≤ 1048576 := by omega
    refine X.fn Tryd.func5 rfl (n := 67) rfl rfl ?_
    refine CC.seq ?_
    refine CC.region ?_
    refine LL.box [Value.int IntKind.i64 ↑f, Value.int IntKind.i64 ↑d, Value.int IntKind.i64 ↑k] rfl rfl rfl rfl rfl ?_
    intro We2 ge3 ege3 re4 ze5 be1
    replace q := q.trans (be1.mono q.size)
    replace hv := hv.up be1
    refine LL.val (R.assign rfl rfl) rfl rfl rfl ?_
    refine LL.nilS ?_
    refine CC.seq ?_
    refine CC.seq ?_
    refine CC.region ?_
    refine LL.val (R.move rfl rfl) rfl rfl rfl ?_
    refine LL.val (R.len rfl rfl rfl rfl) rfl rfl rfl ?_
    refine LL.val (R.gtF rfl rfl rfl (by omega)) rfl rfl rfl ?_
    refine LL.nilS ?_
    refine CC.no rfl ?_
    refine CC.skip ?_
    refine EE.thenN ?_
    refine CC.seq ?_
    refine CC.region ?_
    refine LL.val (R.move rfl rfl) rfl rfl rfl ?_
    refine LL.call (R.call rfl rfl rfl) rfl rfl rfl (lent_n l _ _ _ (hvF _ q) hlen hN) ?_
    rintro e We7 ⟨ge9, ve12, rfl, oe11, he8, le10, be6⟩
    refine ⟨_, rfl, ?_⟩
    have zbe6 := be6.size
    replace re4 := re4.up be6
    replace be1 := be1.trans (be6.mono be1.size)
    replace q := q.trans (be6.mono q.size)
    replace hv := hv.up be6
    refine LL.val (R.assign rfl rfl) rfl rfl rfl ?_
    refine LL.nilS ?_
    refine CC.seq ?_
    refine CC.region ?_
    refine LL.val (R.move rfl rfl) rfl rfl rfl ?_
    refine LL.val (R.load rfl rfl (I.ldNc (vs := [Value.int IntKind.i64 ↑f, Value.int IntKind.i64 ↑d, Value.int IntKind.i64 ↑k]) (RowL.cells re4 rfl) (by rfl) (by rfl))) rfl rfl rfl ?_
    refine LL.call (R.call rfl rfl rfl) rfl rfl rfl (put_T (l := l) _ _ (by first | assumption | omega) hok hn) ?_
    rintro e We15 ⟨ve18, xe19, rfl, he16, re17, be14⟩
    refine ⟨_, rfl, ?_⟩
    have zbe14 := be14.size
    replace oe11 := oe11.up be14
    replace he8 := he8.up be14
    replace be6 := be6.trans (be14.mono be6.size)
    replace re4 := re4.up be14
    replace be1 := be1.trans (be14.mono be1.size)
    replace q := q.trans (be14.mono q.size)
    replace hv := hv.up be14
    refine LL.val (R.move rfl rfl) rfl rfl rfl ?_
    refine LL.val (R.extract rfl rfl rfl) rfl rfl rfl ?_
    refine LL.val (R.extract rfl rfl rfl) rfl rfl rfl ?_
    refine LL.val (R.extract rfl rfl rfl) rfl rfl rfl ?_
    refine LL.val (R.assign rfl rfl) rfl rfl rfl ?_
    refine LL.val (R.assign rfl rfl) rfl rfl rfl ?_
    refine LL.val (R.assign rfl rfl) rfl rfl rfl ?_
    refine LL.nilS ?_
    refine CC.seq ?_
    refine CC.region ?_
    refine LL.val (R.move rfl rfl) rfl rfl rfl ?_
    refine LL.val (R.load rfl rfl (I.ldNc (vs := [Value.int IntKind.i64 ↑f, Value.int IntKind.i64 ↑d, Value.int IntKind.i64 ↑k]) (RowL.cells re4 rfl) (by rfl) (by rfl))) rfl rfl rfl ?_
    refine LL.call (R.call rfl rfl rfl) rfl rfl rfl (rput_T (l := l) _ _ (hvF _ q) hok hn) ?_
    rintro e We22 ⟨ve25, xe26, rfl, he23, re24, be21⟩
    refine ⟨_, rfl, ?_⟩
    have zbe21 := be21.size
    replace he16 := he16.up be21
    replace re17 := re17.up be21
    replace be14 := be14.trans (be21.mono be14.size)
    replace oe11 := oe11.up be21
    replace he8 := he8.up be21
    replace be6 := be6.trans (be21.mono be6.size)
    replace re4 := re4.up be21
    replace be1 := be1.trans (be21.mono be1.size)
    replace q := q.trans (be21.mono q.size)
    replace hv := hv.up be21
    refine LL.val (R.move rfl rfl) rfl rfl rfl ?_
    refine LL.val (R.extract rfl rfl rfl) rfl rfl rfl ?_
    refine LL.val (R.extract rfl rfl rfl) rfl rfl rfl ?_
    refine LL.val (R.extract rfl rfl rfl) rfl rfl rfl ?_
    refine LL.val (R.assign rfl rfl) rfl rfl rfl ?_
    refine LL.val (R.assign rfl rfl) rfl rfl rfl ?_
    refine LL.val (R.assign rfl rfl) rfl rfl rfl ?_
    refine LL.nilS ?_
    refine CC.seq ?_
    refine CC.region ?_
    refine LL.val (R.move rfl rfl) rfl rfl rfl ?_
    refine LL.val (R.move rfl rfl) rfl rfl rfl ?_
    refine LL.call (R.call rfl rfl rfl) rfl rfl rfl (slist_T _ _ _ _ (by first | assumption | omega) (by first | assumption | omega) (by first | assumption | omega)) ?_
    rintro e We29 ⟨rfl, be28⟩
    refine ⟨_, rfl, ?_⟩
    have zbe28 := be28.size
    replace he23 := he23.up be28
    replace re24 := re24.up be28
    replace be21 := be21.trans (be28.mono be21.size)
    replace he16 := he16.up be28
    replace re17 := re17.up be28
    replace be14 := be14.trans (be28.mono be14.size)
    replace oe11 := oe11.up be28
    replace he8 := he8.up be28
    replace be6 := be6.trans (be28.mono be6.size)
    replace re4 := re4.up be28
    replace be1 := be1.trans (be28.mono be1.size)
    replace q := q.trans (be28.mono q.size)
    replace hv := hv.up be28
    refine LL.val (R.move rfl rfl) rfl rfl rfl ?_
    refine LL.val (R.move rfl rfl) rfl rfl rfl ?_
    refine LL.val (R.move rfl rfl) rfl rfl rfl ?_
    refine LL.call (R.call rfl rfl rfl) rfl rfl rfl (sruns_T _ _ _ _ (by first | assumption | omega) (by first | assumption | omega) (by first | assumption | omega)) ?_
    rintro e We32 ⟨rfl, be31⟩
    refine ⟨_, rfl, ?_⟩
    have zbe31 := be31.size
    replace be28 := be28.trans (be31.mono be28.size)
    replace he23 := he23.up be31
    replace re24 := re24.up be31
    replace be21 := be21.trans (be31.mono be21.size)
    replace he16 := he16.up be31
    replace re17 := re17.up be31
    replace be14 := be14.trans (be31.mono be14.size)
    replace oe11 := oe11.up be31
    replace he8 := he8.up be31
    replace be6 := be6.trans (be31.mono be6.size)
    replace re4 := re4.up be31
    replace be1 := be1.trans (be31.mono be1.size)
    replace q := q.trans (be31.mono q.size)
    replace hv := hv.up be31
    refine LL.val (R.pick rfl rfl rfl) rfl rfl rfl ?_
    refine LL.val (R.move rfl rfl) rfl rfl rfl ?_
    refine LL.val (R.move rfl rfl) rfl rfl rfl ?_
    refine LL.call (R.call rfl rfl rfl) rfl rfl rfl (num_any _ _) ?_
    rintro e W' ⟨rfl, rfl⟩
    refine ⟨_, rfl, ?_⟩
    refine LL.val (R.move rfl rfl) rfl rfl rfl ?_
    refine LL.val (R.eqT rfl rfl rfl (by omega)) rfl rfl rfl ?_
    refine LL.val (R.pick rfl rfl rfl) rfl rfl rfl ?_
    refine LL.val (R.move rfl rfl) rfl rfl rfl ?_
    refine LL.val (R.move rfl rfl) rfl rfl rfl ?_
    refine LL.val (R.move rfl rfl) rfl rfl rfl ?_
    refine LL.call (R.call rfl rfl rfl) rfl rfl rfl (slist_T _ _ _ _ (by first | assumption | omega) (by first | assumption | omega) (by first | assumption | omega)) ?_
    rintro e We35 ⟨rfl, be34⟩
    refine ⟨_, rfl, ?_⟩
    have zbe34 := be34.size
    replace be31 := be31.trans (be34.mono be31.size)
    replace be28 := be28.trans (be34.mono be28.size)
    replace he23 := he23.up be34
    replace re24 := re24.up be34
    replace be21 := be21.trans (be34.mono be21.size)
    replace he16 := he16.up be34
    replace re17 := re17.up be34
    replace be14 := be14.trans (be34.mono be14.size)
    replace oe11 := oe11.up be34
    replace he8 := he8.up be34
    replace be6 := be6.trans (be34.mono be6.size)
    replace re4 := re4.up be34
    replace be1 := be1.trans (be34.mono be1.size)
    replace q := q.trans (be34.mono q.size)
    replace hv := hv.up be34
    refine LL.val (R.pick rfl rfl rfl) rfl rfl rfl ?_
    refine LL.val (R.move rfl rfl) rfl rfl rfl ?_
    refine LL.val (R.move rfl rfl) rfl rfl rfl ?_
    refine LL.val (R.move rfl rfl) rfl rfl rfl ?_
    refine LL.val (R.len rfl rfl rfl rfl) rfl rfl rfl ?_
    refine LL.val (R.addNc rfl rfl rfl rfl (by omega)) rfl rfl rfl ?_
    refine LL.val (R.slice rfl rfl rfl rfl rfl (I.slTo rfl (by omega))) rfl rfl rfl ?_
    refine LL.val (R.move rfl rfl) rfl rfl rfl ?_
    refine LL.val (R.len rfl rfl rfl rfl) rfl rfl rfl ?_
    refine LL.val (R.index rfl rfl rfl (I.ixS rfl (by omega))) rfl rfl rfl ?_
    refine LL.val (R.field rfl rfl (I.fld rfl)) rfl rfl rfl ?_
    have c1 := lent_c (l := l) (N := N) (by assumption) hN
    refine LL.val (R.load rfl rfl (I.ld1 rfl (by assumption))) rfl rfl rfl ?_
    refine LL.val (R.eqT rfl rfl rfl (by omega)) rfl rfl rfl ?_
    refine LL.val (R.pick rfl rfl rfl) rfl rfl rfl ?_
    refine LL.val (R.move rfl rfl) rfl rfl rfl ?_
    refine LL.call (R.call rfl rfl rfl) rfl rfl rfl (works_any _ (hsF _ q)) ?_
    rintro e Wf2 ⟨rfl, bf1⟩
    refine ⟨_, rfl, ?_⟩
    have zbf1 := bf1.size
    replace be34 := be34.trans (bf1.mono be34.size)
    replace be31 := be31.trans (bf1.mono be31.size)
    replace be28 := be28.trans (bf1.mono be28.size)
    replace he23 := he23.up bf1
    replace re24 := re24.up bf1
    replace be21 := be21.trans (bf1.mono be21.size)
    replace he16 := he16.up bf1
    replace re17 := re17.up bf1
    replace be14 := be14.trans (bf1.mono be14.size)
    replace oe11 := oe11.up bf1
    replace he8 := he8.up bf1
    replace be6 := be6.trans (bf1.mono be6.size)
    replace re4 := re4.up bf1
    replace be1 := be1.trans (bf1.mono be1.size)
    replace q := q.trans (bf1.mono q.size)
    replace hv := hv.up bf1
    replace c1 := cell_up c1 bf1
    refine LL.val (R.pick rfl rfl rfl) rfl rfl rfl ?_
    refine LL.val (R.assign rfl rfl) rfl rfl rfl ?_
    refine LL.nilS ?_
    refine CC.ret ?_
    refine EE.ret _ rfl rfl ?_
    exact ⟨rfl, q⟩
end Go.Proofs.YtklfopclaonggaaDoor
