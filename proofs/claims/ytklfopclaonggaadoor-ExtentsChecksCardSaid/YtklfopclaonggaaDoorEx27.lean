/- ExtentsChecks. -/
import Derived.Test.YtklfopclaonggaaDoorEx24
namespace Go.Proofs.YtklfopclaonggaaDoor
set_option linter.unusedVariables false
set_option linter.unusedSimpArgs false
open Go.RowKit Go.Shelf
theorem lent_r (l : List Ex) (v : Value) (w : World) (hv : ReadsT eE 3 w v l) (hlen : l.length ≤ 1048576) : Calls Tryd.prog 12 #[v] w fun e w' => ∃ v', e = .returned v' ∧ ReadsT eE 3 w' v' l ∧ Below w.heap.size w w' :=
  (lent_any l v w hv hlen).mono fun e w' ⟨g, cap, he, hr, hc, _, hw⟩ => ⟨_, he, by
    have := hr.take eEnc l.length (by omega) cap (by omega)
    rwa [List.take_left'] at this
    rfl, hw⟩
set_option maxRecDepth 100000 in
set_option maxHeartbeats 8000000 in
theorem checksx_walk (v : Value) (l : List Ex) (B : Int) (w : World) (hs : Start w) (hv : ReadsT eE 3 w v l) : Calls Tryd.prog 3 #[v, .int .i64 B] w fun e w' => e = .returned (.bool true) ∧ Below w.heap.size w w' := by
  have q := Below.refl w.heap.size w
  obtain ⟨N, hN⟩ : ∃ N, l.length = N := ⟨_, rfl⟩
  obtain ⟨a, cap, rfl, hcap⟩ := hv.form hN
  have hvF : ∀ W, Below w.heap.size w W → ReadsT eE 3 W (.slice a N cap) l := fun W hb => hv.up hb
  have hsF : ∀ W, Below w.heap.size w W → Start W := fun W hb => hs.up hb
  clear hv hs
  by_cases h30 : 30 < N
  · refine X.fn Tryd.func3 rfl (n := 87) rfl rfl ?_
    refine CC.seq ?_
    refine CC.region ?_
    refine LL.val (R.assign rfl rfl) rfl rfl rfl ?_
    refine LL.nilS ?_
    refine CC.seq ?_
    refine CC.seq ?_
    refine CC.region ?_
    refine LL.val (R.move rfl rfl) rfl rfl rfl ?_
    refine LL.val (R.len rfl rfl rfl rfl) rfl rfl rfl ?_
    refine LL.val (R.gtT rfl rfl rfl (by omega)) rfl rfl rfl ?_
    refine LL.nilS ?_
    refine CC.yes rfl ?_
    refine CC.seq ?_
    refine CC.region ?_
    refine LL.call (R.call rfl rfl rfl) rfl rfl rfl (works_any _ (hsF _ q)) ?_
    rintro e W2 ⟨rfl, b1⟩
    refine ⟨_, rfl, ?_⟩
    have zb1 := b1.size
    replace q := q.trans (b1.mono q.size)
    refine LL.val (R.assign rfl rfl) rfl rfl rfl ?_
    refine LL.nilS ?_
    refine CC.ret ?_
    refine EE.thenR ?_
    refine EE.ret _ rfl rfl ?_
    exact ⟨rfl, q⟩
  have hlen : l.length ≤ 1048576 := by omega
  by_cases h : vL l
  case neg =>
    have hz := fnd_no h B
    refine X.fn Tryd.func3 rfl (n := 87) rfl rfl ?_
    refine CC.seq ?_
    refine CC.region ?_
    refine LL.val (R.assign rfl rfl) rfl rfl rfl ?_
    refine LL.nilS ?_
    refine CC.seq ?_
    refine CC.seq ?_
    refine CC.region ?_
    refine LL.val (R.move rfl rfl) rfl rfl rfl ?_
    refine LL.val (R.len rfl rfl rfl rfl) rfl rfl rfl ?_
    refine LL.val (R.gtF rfl rfl rfl (by omega)) rfl rfl rfl ?_
    refine LL.nilS ?_
    refine CC.no rfl ?_
    refine CC.skip ?_
    refine EE.thenN ?_
    refine CC.seq ?_
    refine CC.region ?_
    refine LL.val (R.move rfl rfl) rfl rfl rfl ?_
    refine LL.call (R.call rfl rfl rfl) rfl rfl rfl (rof_F l _ _ (hvF _ q) hlen h) ?_
    rintro e Wa2 ⟨va3, rfl, ka4, ba1⟩
    refine ⟨_, rfl, ?_⟩
    have zba1 := ba1.size
    replace q := q.trans (ba1.mono q.size)
    refine LL.val (R.move rfl rfl) rfl rfl rfl ?_
    refine LL.val (R.extract rfl rfl rfl) rfl rfl rfl ?_
    refine LL.val (R.extract rfl rfl rfl) rfl rfl rfl ?_
    refine LL.alloc (intsZ .i64 (List.replicate 128 0)) rfl rfl rfl rfl rfl ?_
    intro Wa7 ga8 ega8 ra9 za10 ba6
    replace ba1 := ba1.trans (ba6.mono ba1.size)
    replace q := q.trans (ba6.mono q.size)
    refine LL.storeAZ rfl rfl rfl rfl (by first | assumption | exact List.length_replicate | exact plL_len _ | exact plOf_len _ | simp) ra9 (by first | (rw [List.length_map]; exact (by first | assumption | exact List.length_replicate | exact plL_len _ | exact plOf_len _ | simp)) | simp) rfl rfl ?_
    intro Wa12 ra13 ba11 za14
    have hlba11 := ra9.lt
    clear ra9
    replace ba6 := ba6.grown ba11 ba6.size (by rintro k ⟨⟩; omega)
    replace ba1 := ba1.grown ba11 ba1.size (by rintro k ⟨⟩; omega)
    replace q := q.grown ba11 q.size (by rintro k ⟨⟩; omega)
    have ra9 := ra13
    clear ra13
    refine LL.val (R.assign rfl rfl) rfl rfl rfl ?_
    refine LL.nilS ?_
    refine CC.seq ?_
    refine CC.region ?_
    refine LL.val (R.move rfl rfl) rfl rfl rfl ?_
    refine LL.call (R.call rfl rfl rfl) rfl rfl rfl (lent_r l _ _ (hvF _ q) hlen) ?_
    rintro e Wa16 ⟨va18, rfl, ha17, ba15⟩
    refine ⟨_, rfl, ?_⟩
    have zba15 := ba15.size
    replace ba6 := ba6.trans (ba15.mono ba6.size)
    replace ba1 := ba1.trans (ba15.mono ba1.size)
    replace q := q.trans (ba15.mono q.size)
    replace ra9 := ra9.up ba15
    refine LL.val (R.move rfl rfl) rfl rfl rfl ?_
    refine LL.call (R.call rfl rfl rfl) rfl rfl rfl (find_0 _ _ _ _ (by first | assumption | omega) (by first | assumption | omega) (by first | assumption | omega)) ?_
    rintro e Wa21 ⟨rfl, ba20⟩
    refine ⟨_, rfl, ?_⟩
    have zba20 := ba20.size
    replace ha17 := ha17.up ba20
    replace ba15 := ba15.trans (ba20.mono ba15.size)
    replace ba6 := ba6.trans (ba20.mono ba6.size)
    replace ba1 := ba1.trans (ba20.mono ba1.size)
    replace q := q.trans (ba20.mono q.size)
    replace ra9 := ra9.up ba20
    refine LL.val (R.move rfl rfl) rfl rfl rfl ?_
    refine LL.val (R.extract rfl rfl rfl) rfl rfl rfl ?_
    refine LL.val (R.extract rfl rfl rfl) rfl rfl rfl ?_
    refine LL.val (R.assign rfl rfl) rfl rfl rfl ?_
    refine LL.val (R.assign rfl rfl) rfl rfl rfl ?_
    refine LL.nilS ?_
    refine CC.seq ?_
    refine CC.seq ?_
    refine CC.region ?_
    refine LL.val (R.move rfl rfl) rfl rfl rfl ?_
    refine LL.call (R.call rfl rfl rfl) rfl rfl rfl (lent_r l _ _ (hvF _ q) hlen) ?_
    rintro e Wa24 ⟨va26, rfl, ha25, ba23⟩
    refine ⟨_, rfl, ?_⟩
    have zba23 := ba23.size
    replace ba20 := ba20.trans (ba23.mono ba20.size)
    replace ha17 := ha17.up ba23
    replace ba15 := ba15.trans (ba23.mono ba15.size)
    replace ba6 := ba6.trans (ba23.mono ba6.size)
    replace ba1 := ba1.trans (ba23.mono ba1.size)
    replace q := q.trans (ba23.mono q.size)
    replace ra9 := ra9.up ba23
    refine LL.call (R.call rfl rfl rfl) rfl rfl rfl (check_F _ _ _ (by first | assumption | omega) (by first | assumption | omega) (by first | assumption | omega)) ?_
    rintro e Wa29 ⟨rfl, ba28⟩
    refine ⟨_, rfl, ?_⟩
    have zba28 := ba28.size
    replace ha25 := ha25.up ba28
    replace ba23 := ba23.trans (ba28.mono ba23.size)
    replace ba20 := ba20.trans (ba28.mono ba20.size)
    replace ha17 := ha17.up ba28
    replace ba15 := ba15.trans (ba28.mono ba15.size)
    replace ba6 := ba6.trans (ba28.mono ba6.size)
    replace ba1 := ba1.trans (ba28.mono ba1.size)
    replace q := q.trans (ba28.mono q.size)
    replace ra9 := ra9.up ba28
    refine LL.call (R.call rfl rfl rfl) rfl rfl rfl (num_any _ _) ?_
    rintro e W' ⟨rfl, rfl⟩
    refine ⟨_, rfl, ?_⟩
    refine LL.val (R.eqF rfl rfl rfl (by omega)) rfl rfl rfl ?_
    refine LL.val (R.move rfl rfl) rfl rfl rfl ?_
    refine LL.val (R.neBool rfl rfl rfl rfl rfl) rfl rfl rfl ?_
    refine LL.val (R.move rfl rfl) rfl rfl rfl ?_
    refine LL.val (R.move rfl rfl) rfl rfl rfl ?_
    refine LL.call (R.call rfl rfl rfl) rfl rfl rfl (check_F _ _ _ (hvF _ q) hlen h) ?_
    rintro e Wa32 ⟨rfl, ba31⟩
    refine ⟨_, rfl, ?_⟩
    have zba31 := ba31.size
    replace ba28 := ba28.trans (ba31.mono ba28.size)
    replace ha25 := ha25.up ba31
    replace ba23 := ba23.trans (ba31.mono ba23.size)
    replace ba20 := ba20.trans (ba31.mono ba20.size)
    replace ha17 := ha17.up ba31
    replace ba15 := ba15.trans (ba31.mono ba15.size)
    replace ba6 := ba6.trans (ba31.mono ba6.size)
    replace ba1 := ba1.trans (ba31.mono ba1.size)
    replace q := q.trans (ba31.mono q.size)
    replace ra9 := ra9.up ba31
    refine LL.call (R.call rfl rfl rfl) rfl rfl rfl (num_any _ _) ?_
    rintro e W' ⟨rfl, rfl⟩
    refine ⟨_, rfl, ?_⟩
    refine LL.val (R.neT rfl rfl rfl (by omega)) rfl rfl rfl ?_
    refine LL.val (R.move rfl rfl) rfl rfl rfl ?_
    refine LL.val (R.move rfl rfl) rfl rfl rfl ?_
    refine LL.call (R.call rfl rfl rfl) rfl rfl rfl (check_F _ _ _ (hvF _ q) hlen h) ?_
    rintro e Wa35 ⟨rfl, ba34⟩
    refine ⟨_, rfl, ?_⟩
    have zba34 := ba34.size
    replace ba31 := ba31.trans (ba34.mono ba31.size)
    replace ba28 := ba28.trans (ba34.mono ba28.size)
    replace ha25 := ha25.up ba34
    replace ba23 := ba23.trans (ba34.mono ba23.size)
    replace ba20 := ba20.trans (ba34.mono ba20.size)
    replace ha17 := ha17.up ba34
    replace ba15 := ba15.trans (ba34.mono ba15.size)
    replace ba6 := ba6.trans (ba34.mono ba6.size)
    replace ba1 := ba1.trans (ba34.mono ba1.size)
    replace q := q.trans (ba34.mono q.size)
    replace ra9 := ra9.up ba34
    refine LL.call (R.call rfl rfl rfl) rfl rfl rfl (num_any _ _) ?_
    rintro e W' ⟨rfl, rfl⟩
    refine ⟨_, rfl, ?_⟩
    refine LL.val (R.neF rfl rfl rfl (by omega)) rfl rfl rfl ?_
    refine LL.val (R.pick rfl rfl rfl) rfl rfl rfl ?_
    refine LL.val (R.pick rfl rfl rfl) rfl rfl rfl ?_
    refine LL.val (R.move rfl rfl) rfl rfl rfl ?_
    refine LL.val (R.move rfl rfl) rfl rfl rfl ?_
    refine LL.call (R.call rfl rfl rfl) rfl rfl rfl (nblocks_any _ _ _ (hvF _ q) hlen) ?_
    rintro e Wa38 ⟨rfl, ba37⟩
    refine ⟨_, rfl, ?_⟩
    have zba37 := ba37.size
    replace ba34 := ba34.trans (ba37.mono ba34.size)
    replace ba31 := ba31.trans (ba37.mono ba31.size)
    replace ba28 := ba28.trans (ba37.mono ba28.size)
    replace ha25 := ha25.up ba37
    replace ba23 := ba23.trans (ba37.mono ba23.size)
    replace ba20 := ba20.trans (ba37.mono ba20.size)
    replace ha17 := ha17.up ba37
    replace ba15 := ba15.trans (ba37.mono ba15.size)
    replace ba6 := ba6.trans (ba37.mono ba6.size)
    replace ba1 := ba1.trans (ba37.mono ba1.size)
    replace q := q.trans (ba37.mono q.size)
    replace ra9 := ra9.up ba37
    refine LL.val (R.move rfl rfl) rfl rfl rfl ?_
    refine LL.call (R.call rfl rfl rfl) rfl rfl rfl (rblocks_any _ _ _ (hvF _ q) hlen) ?_
    rintro e Wa41 ⟨rfl, ba40⟩
    refine ⟨_, rfl, ?_⟩
    have zba40 := ba40.size
    replace ba37 := ba37.trans (ba40.mono ba37.size)
    replace ba34 := ba34.trans (ba40.mono ba34.size)
    replace ba31 := ba31.trans (ba40.mono ba31.size)
    replace ba28 := ba28.trans (ba40.mono ba28.size)
    replace ha25 := ha25.up ba40
    replace ba23 := ba23.trans (ba40.mono ba23.size)
    replace ba20 := ba20.trans (ba40.mono ba20.size)
    replace ha17 := ha17.up ba40
    replace ba15 := ba15.trans (ba40.mono ba15.size)
    replace ba6 := ba6.trans (ba40.mono ba6.size)
    replace ba1 := ba1.trans (ba40.mono ba1.size)
    replace q := q.trans (ba40.mono q.size)
    replace ra9 := ra9.up ba40
    refine LL.val (R.neF rfl rfl rfl (by omega)) rfl rfl rfl ?_
    refine LL.val (R.pick rfl rfl rfl) rfl rfl rfl ?_
    refine LL.nilS ?_
    refine CC.no rfl ?_
    refine CC.skip ?_
    refine EE.thenN ?_
    refine CC.seq ?_
    refine CC.seq ?_
    refine CC.region ?_
    refine LL.val (R.move rfl rfl) rfl rfl rfl ?_
    refine LL.val (R.not rfl rfl) rfl rfl rfl ?_
    refine LL.val (R.move rfl rfl) rfl rfl rfl ?_
    refine LL.skip rfl rfl ?_
    refine LL.skip rfl rfl ?_
    refine LL.val (R.pick rfl rfl rfl) rfl rfl rfl ?_
    refine LL.val (R.move rfl rfl) rfl rfl rfl ?_
    refine LL.skip rfl rfl ?_
    refine LL.skip rfl rfl ?_
    refine LL.val (R.pick rfl rfl rfl) rfl rfl rfl ?_
    refine LL.val (R.move rfl rfl) rfl rfl rfl ?_
    refine LL.skip rfl rfl ?_
    refine LL.skip rfl rfl ?_
    refine LL.skip rfl rfl ?_
    refine LL.skip rfl rfl ?_
    refine LL.val (R.pick rfl rfl rfl) rfl rfl rfl ?_
    refine LL.nilS ?_
    refine CC.yes rfl ?_
    refine CC.seq ?_
    refine CC.region ?_
    refine LL.val (R.move rfl rfl) rfl rfl rfl ?_
    refine LL.val (R.eqT rfl rfl rfl (by omega)) rfl rfl rfl ?_
    refine LL.val (R.move rfl rfl) rfl rfl rfl ?_
    refine LL.val (R.move rfl rfl) rfl rfl rfl ?_
    refine LL.val (R.not rfl rfl) rfl rfl rfl ?_
    refine LL.val (R.pick rfl rfl rfl) rfl rfl rfl ?_
    refine LL.val (R.move rfl rfl) rfl rfl rfl ?_
    refine LL.call (R.call rfl rfl rfl) rfl rfl rfl (works_any _ (hsF _ q)) ?_
    rintro e Wa44 ⟨rfl, ba43⟩
    refine ⟨_, rfl, ?_⟩
    have zba43 := ba43.size
    replace ba40 := ba40.trans (ba43.mono ba40.size)
    replace ba37 := ba37.trans (ba43.mono ba37.size)
    replace ba34 := ba34.trans (ba43.mono ba34.size)
    replace ba31 := ba31.trans (ba43.mono ba31.size)
    replace ba28 := ba28.trans (ba43.mono ba28.size)
    replace ha25 := ha25.up ba43
    replace ba23 := ba23.trans (ba43.mono ba23.size)
    replace ba20 := ba20.trans (ba43.mono ba20.size)
    replace ha17 := ha17.up ba43
    replace ba15 := ba15.trans (ba43.mono ba15.size)
    replace ba6 := ba6.trans (ba43.mono ba6.size)
    replace ba1 := ba1.trans (ba43.mono ba1.size)
    replace q := q.trans (ba43.mono q.size)
    replace ra9 := ra9.up ba43
    refine LL.val (R.pick rfl rfl rfl) rfl rfl rfl ?_
    refine LL.val (R.assign rfl rfl) rfl rfl rfl ?_
    refine LL.nilS ?_
    refine CC.ret ?_
    refine EE.thenR ?_
    refine EE.ret _ rfl rfl ?_
    exact ⟨rfl, q⟩
  by_cases hB : B < 0
  · have hz := fnd_out (l := l) (b := B) (by omega)
    refine X.fn Tryd.func3 rfl (n := 87) rfl rfl ?_
    refine CC.seq ?_
    refine CC.region ?_
    refine LL.val (R.assign rfl rfl) rfl rfl rfl ?_
    refine LL.nilS ?_
    refine CC.seq ?_
    refine CC.seq ?_
    refine CC.region ?_
    refine LL.val (R.move rfl rfl) rfl rfl rfl ?_
    refine LL.val (R.len rfl rfl rfl rfl) rfl rfl rfl ?_
    refine LL.val (R.gtF rfl rfl rfl (by omega)) rfl rfl rfl ?_
    refine LL.nilS ?_
    refine CC.no rfl ?_
    refine CC.skip ?_
    refine EE.thenN ?_
    refine CC.seq ?_
    refine CC.region ?_
    refine LL.val (R.move rfl rfl) rfl rfl rfl ?_
    refine LL.call (R.call rfl rfl rfl) rfl rfl rfl (rof_T l _ _ (hvF _ q) hlen h) ?_
    rintro e Wb2 ⟨rfl, bb1⟩
    refine ⟨_, rfl, ?_⟩
    have zbb1 := bb1.size
    replace q := q.trans (bb1.mono q.size)
    refine LL.val (R.move rfl rfl) rfl rfl rfl ?_
    refine LL.val (R.extract rfl rfl rfl) rfl rfl rfl ?_
    refine LL.val (R.extract rfl rfl rfl) rfl rfl rfl ?_
    refine LL.alloc (intsZ .i64 (List.replicate 128 0)) rfl rfl rfl rfl rfl ?_
    intro Wb5 gb6 egb6 rb7 zb8 bb4
    replace bb1 := bb1.trans (bb4.mono bb1.size)
    replace q := q.trans (bb4.mono q.size)
    refine LL.storeAZ rfl rfl rfl rfl (by first | assumption | exact List.length_replicate | exact plL_len _ | exact plOf_len _ | simp) rb7 (by first | (rw [List.length_map]; exact (by first | assumption | exact List.length_replicate | exact plL_len _ | exact plOf_len _ | simp)) | simp) rfl rfl ?_
    intro Wb10 rb11 bb9 zb12
    have hlbb9 := rb7.lt
    clear rb7
    replace bb4 := bb4.grown bb9 bb4.size (by rintro k ⟨⟩; omega)
    replace bb1 := bb1.grown bb9 bb1.size (by rintro k ⟨⟩; omega)
    replace q := q.grown bb9 q.size (by rintro k ⟨⟩; omega)
    have rb7 := rb11
    clear rb11
    refine LL.val (R.assign rfl rfl) rfl rfl rfl ?_
    refine LL.nilS ?_
    refine CC.seq ?_
    refine CC.region ?_
    refine LL.val (R.move rfl rfl) rfl rfl rfl ?_
    refine LL.call (R.call rfl rfl rfl) rfl rfl rfl (lent_r l _ _ (hvF _ q) hlen) ?_
    rintro e Wb14 ⟨vb16, rfl, hb15, bb13⟩
    refine ⟨_, rfl, ?_⟩
    have zbb13 := bb13.size
    replace bb4 := bb4.trans (bb13.mono bb4.size)
    replace bb1 := bb1.trans (bb13.mono bb1.size)
    replace q := q.trans (bb13.mono q.size)
    replace rb7 := rb7.up bb13
    refine LL.val (R.move rfl rfl) rfl rfl rfl ?_
    refine LL.call (R.call rfl rfl rfl) rfl rfl rfl (find_0 _ _ _ _ (by first | assumption | omega) (by first | assumption | omega) (by first | assumption | omega)) ?_
    rintro e Wb19 ⟨rfl, bb18⟩
    refine ⟨_, rfl, ?_⟩
    have zbb18 := bb18.size
    replace hb15 := hb15.up bb18
    replace bb13 := bb13.trans (bb18.mono bb13.size)
    replace bb4 := bb4.trans (bb18.mono bb4.size)
    replace bb1 := bb1.trans (bb18.mono bb1.size)
    replace q := q.trans (bb18.mono q.size)
    replace rb7 := rb7.up bb18
    refine LL.val (R.move rfl rfl) rfl rfl rfl ?_
    refine LL.val (R.extract rfl rfl rfl) rfl rfl rfl ?_
    refine LL.val (R.extract rfl rfl rfl) rfl rfl rfl ?_
    refine LL.val (R.assign rfl rfl) rfl rfl rfl ?_
    refine LL.val (R.assign rfl rfl) rfl rfl rfl ?_
    refine LL.nilS ?_
    refine CC.seq ?_
    refine CC.seq ?_
    refine CC.region ?_
    refine LL.val (R.move rfl rfl) rfl rfl rfl ?_
    refine LL.call (R.call rfl rfl rfl) rfl rfl rfl (lent_r l _ _ (hvF _ q) hlen) ?_
    rintro e Wb22 ⟨vb24, rfl, hb23, bb21⟩
    refine ⟨_, rfl, ?_⟩
    have zbb21 := bb21.size
    replace bb18 := bb18.trans (bb21.mono bb18.size)
    replace hb15 := hb15.up bb21
    replace bb13 := bb13.trans (bb21.mono bb13.size)
    replace bb4 := bb4.trans (bb21.mono bb4.size)
    replace bb1 := bb1.trans (bb21.mono bb1.size)
    replace q := q.trans (bb21.mono q.size)
    replace rb7 := rb7.up bb21
    refine LL.call (R.call rfl rfl rfl) rfl rfl rfl (check_T _ _ _ (by first | assumption | omega) (by first | assumption | omega) (by first | assumption | omega)) ?_
    rintro e Wb27 ⟨rfl, bb26⟩
    refine ⟨_, rfl, ?_⟩
    have zbb26 := bb26.size
    replace hb23 := hb23.up bb26
    replace bb21 := bb21.trans (bb26.mono bb21.size)
    replace bb18 := bb18.trans (bb26.mono bb18.size)
    replace hb15 := hb15.up bb26
    replace bb13 := bb13.trans (bb26.mono bb13.size)
    replace bb4 := bb4.trans (bb26.mono bb4.size)
    replace bb1 := bb1.trans (bb26.mono bb1.size)
    replace q := q.trans (bb26.mono q.size)
    replace rb7 := rb7.up bb26
    refine LL.call (R.call rfl rfl rfl) rfl rfl rfl (num_any _ _) ?_
    rintro e W' ⟨rfl, rfl⟩
    refine ⟨_, rfl, ?_⟩
    refine LL.val (R.eqT rfl rfl rfl (by omega)) rfl rfl rfl ?_
    refine LL.val (R.move rfl rfl) rfl rfl rfl ?_
    refine LL.val (R.neBool rfl rfl rfl rfl rfl) rfl rfl rfl ?_
    refine LL.val (R.move rfl rfl) rfl rfl rfl ?_
    refine LL.val (R.move rfl rfl) rfl rfl rfl ?_
    refine LL.call (R.call rfl rfl rfl) rfl rfl rfl (check_T _ _ _ (hvF _ q) hlen h) ?_
    rintro e Wb30 ⟨rfl, bb29⟩
    refine ⟨_, rfl, ?_⟩
    have zbb29 := bb29.size
    replace bb26 := bb26.trans (bb29.mono bb26.size)
    replace hb23 := hb23.up bb29
    replace bb21 := bb21.trans (bb29.mono bb21.size)
    replace bb18 := bb18.trans (bb29.mono bb18.size)
    replace hb15 := hb15.up bb29
    replace bb13 := bb13.trans (bb29.mono bb13.size)
    replace bb4 := bb4.trans (bb29.mono bb4.size)
    replace bb1 := bb1.trans (bb29.mono bb1.size)
    replace q := q.trans (bb29.mono q.size)
    replace rb7 := rb7.up bb29
    refine LL.call (R.call rfl rfl rfl) rfl rfl rfl (num_any _ _) ?_
    rintro e W' ⟨rfl, rfl⟩
    refine ⟨_, rfl, ?_⟩
    refine LL.val (R.neF rfl rfl rfl (by omega)) rfl rfl rfl ?_
    refine LL.val (R.move rfl rfl) rfl rfl rfl ?_
    refine LL.skip rfl rfl ?_
    refine LL.skip rfl rfl ?_
    refine LL.skip rfl rfl ?_
    refine LL.skip rfl rfl ?_
    refine LL.val (R.pick rfl rfl rfl) rfl rfl rfl ?_
    refine LL.val (R.pick rfl rfl rfl) rfl rfl rfl ?_
    refine LL.val (R.move rfl rfl) rfl rfl rfl ?_
    refine LL.val (R.move rfl rfl) rfl rfl rfl ?_
    refine LL.call (R.call rfl rfl rfl) rfl rfl rfl (nblocks_any _ _ _ (hvF _ q) hlen) ?_
    rintro e Wb33 ⟨rfl, bb32⟩
    refine ⟨_, rfl, ?_⟩
    have zbb32 := bb32.size
    replace bb29 := bb29.trans (bb32.mono bb29.size)
    replace bb26 := bb26.trans (bb32.mono bb26.size)
    replace hb23 := hb23.up bb32
    replace bb21 := bb21.trans (bb32.mono bb21.size)
    replace bb18 := bb18.trans (bb32.mono bb18.size)
    replace hb15 := hb15.up bb32
    replace bb13 := bb13.trans (bb32.mono bb13.size)
    replace bb4 := bb4.trans (bb32.mono bb4.size)
    replace bb1 := bb1.trans (bb32.mono bb1.size)
    replace q := q.trans (bb32.mono q.size)
    replace rb7 := rb7.up bb32
    refine LL.val (R.move rfl rfl) rfl rfl rfl ?_
    refine LL.call (R.call rfl rfl rfl) rfl rfl rfl (rblocks_any _ _ _ (hvF _ q) hlen) ?_
    rintro e Wb36 ⟨rfl, bb35⟩
    refine ⟨_, rfl, ?_⟩
    have zbb35 := bb35.size
    replace bb32 := bb32.trans (bb35.mono bb32.size)
    replace bb29 := bb29.trans (bb35.mono bb29.size)
    replace bb26 := bb26.trans (bb35.mono bb26.size)
    replace hb23 := hb23.up bb35
    replace bb21 := bb21.trans (bb35.mono bb21.size)
    replace bb18 := bb18.trans (bb35.mono bb18.size)
    replace hb15 := hb15.up bb35
    replace bb13 := bb13.trans (bb35.mono bb13.size)
    replace bb4 := bb4.trans (bb35.mono bb4.size)
    replace bb1 := bb1.trans (bb35.mono bb1.size)
    replace q := q.trans (bb35.mono q.size)
    replace rb7 := rb7.up bb35
    refine LL.val (R.neF rfl rfl rfl (by omega)) rfl rfl rfl ?_
    refine LL.val (R.pick rfl rfl rfl) rfl rfl rfl ?_
    refine LL.nilS ?_
    refine CC.no rfl ?_
    refine CC.skip ?_
    refine EE.thenN ?_
    refine CC.seq ?_
    refine CC.seq ?_
    refine CC.region ?_
    refine LL.val (R.move rfl rfl) rfl rfl rfl ?_
    refine LL.val (R.not rfl rfl) rfl rfl rfl ?_
    refine LL.val (R.move rfl rfl) rfl rfl rfl ?_
    refine LL.val (R.move rfl rfl) rfl rfl rfl ?_
    refine LL.val (R.ltT rfl rfl rfl (by omega)) rfl rfl rfl ?_
    refine LL.val (R.pick rfl rfl rfl) rfl rfl rfl ?_
    refine LL.val (R.move rfl rfl) rfl rfl rfl ?_
    refine LL.skip rfl rfl ?_
    refine LL.skip rfl rfl ?_
    refine LL.val (R.pick rfl rfl rfl) rfl rfl rfl ?_
    refine LL.val (R.move rfl rfl) rfl rfl rfl ?_
    refine LL.skip rfl rfl ?_
    refine LL.skip rfl rfl ?_
    refine LL.skip rfl rfl ?_
    refine LL.skip rfl rfl ?_
    refine LL.val (R.pick rfl rfl rfl) rfl rfl rfl ?_
    refine LL.nilS ?_
    refine CC.yes rfl ?_
    refine CC.seq ?_
    refine CC.region ?_
    refine LL.val (R.move rfl rfl) rfl rfl rfl ?_
    refine LL.val (R.eqT rfl rfl rfl (by omega)) rfl rfl rfl ?_
    refine LL.val (R.move rfl rfl) rfl rfl rfl ?_
    refine LL.val (R.move rfl rfl) rfl rfl rfl ?_
    refine LL.val (R.not rfl rfl) rfl rfl rfl ?_
    refine LL.val (R.pick rfl rfl rfl) rfl rfl rfl ?_
    refine LL.val (R.move rfl rfl) rfl rfl rfl ?_
    refine LL.call (R.call rfl rfl rfl) rfl rfl rfl (works_any _ (hsF _ q)) ?_
    rintro e Wb39 ⟨rfl, bb38⟩
    refine ⟨_, rfl, ?_⟩
    have zbb38 := bb38.size
    replace bb35 := bb35.trans (bb38.mono bb35.size)
    replace bb32 := bb32.trans (bb38.mono bb32.size)
    replace bb29 := bb29.trans (bb38.mono bb29.size)
    replace bb26 := bb26.trans (bb38.mono bb26.size)
    replace hb23 := hb23.up bb38
    replace bb21 := bb21.trans (bb38.mono bb21.size)
    replace bb18 := bb18.trans (bb38.mono bb18.size)
    replace hb15 := hb15.up bb38
    replace bb13 := bb13.trans (bb38.mono bb13.size)
    replace bb4 := bb4.trans (bb38.mono bb4.size)
    replace bb1 := bb1.trans (bb38.mono bb1.size)
    replace q := q.trans (bb38.mono q.size)
    replace rb7 := rb7.up bb38
    refine LL.val (R.pick rfl rfl rfl) rfl rfl rfl ?_
    refine LL.val (R.assign rfl rfl) rfl rfl rfl ?_
    refine LL.nilS ?_
    refine CC.ret ?_
    refine EE.thenR ?_
    refine EE.ret _ rfl rfl ?_
    exact ⟨rfl, q⟩
  by_cases hB2 : 127 < B
  · have hz := fnd_out (l := l) (b := B) (by omega)
    refine X.fn Tryd.func3 rfl (n := 87) rfl rfl ?_
    refine CC.seq ?_
    refine CC.region ?_
    refine LL.val (R.assign rfl rfl) rfl rfl rfl ?_
    refine LL.nilS ?_
    refine CC.seq ?_
    refine CC.seq ?_
    refine CC.region ?_
    refine LL.val (R.move rfl rfl) rfl rfl rfl ?_
    refine LL.val (R.len rfl rfl rfl rfl) rfl rfl rfl ?_
    refine LL.val (R.gtF rfl rfl rfl (by omega)) rfl rfl rfl ?_
    refine LL.nilS ?_
    refine CC.no rfl ?_
    refine CC.skip ?_
    refine EE.thenN ?_
    refine CC.seq ?_
    refine CC.region ?_
    refine LL.val (R.move rfl rfl) rfl rfl rfl ?_
    refine LL.call (R.call rfl rfl rfl) rfl rfl rfl (rof_T l _ _ (hvF _ q) hlen h) ?_
    rintro e Wc2 ⟨rfl, bc1⟩
    refine ⟨_, rfl, ?_⟩
    have zbc1 := bc1.size
    replace q := q.trans (bc1.mono q.size)
    refine LL.val (R.move rfl rfl) rfl rfl rfl ?_
    refine LL.val (R.extract rfl rfl rfl) rfl rfl rfl ?_
    refine LL.val (R.extract rfl rfl rfl) rfl rfl rfl ?_
    refine LL.alloc (intsZ .i64 (List.replicate 128 0)) rfl rfl rfl rfl rfl ?_
    intro Wc5 gc6 egc6 rc7 zc8 bc4
    replace bc1 := bc1.trans (bc4.mono bc1.size)
    replace q := q.trans (bc4.mono q.size)
    refine LL.storeAZ rfl rfl rfl rfl (by first | assumption | exact List.length_replicate | exact plL_len _ | exact plOf_len _ | simp) rc7 (by first | (rw [List.length_map]; exact (by first | assumption | exact List.length_replicate | exact plL_len _ | exact plOf_len _ | simp)) | simp) rfl rfl ?_
    intro Wc10 rc11 bc9 zc12
    have hlbc9 := rc7.lt
    clear rc7
    replace bc4 := bc4.grown bc9 bc4.size (by rintro k ⟨⟩; omega)
    replace bc1 := bc1.grown bc9 bc1.size (by rintro k ⟨⟩; omega)
    replace q := q.grown bc9 q.size (by rintro k ⟨⟩; omega)
    have rc7 := rc11
    clear rc11
    refine LL.val (R.assign rfl rfl) rfl rfl rfl ?_
    refine LL.nilS ?_
    refine CC.seq ?_
    refine CC.region ?_
    refine LL.val (R.move rfl rfl) rfl rfl rfl ?_
    refine LL.call (R.call rfl rfl rfl) rfl rfl rfl (lent_r l _ _ (hvF _ q) hlen) ?_
    rintro e Wc14 ⟨vc16, rfl, hc15, bc13⟩
    refine ⟨_, rfl, ?_⟩
    have zbc13 := bc13.size
    replace bc4 := bc4.trans (bc13.mono bc4.size)
    replace bc1 := bc1.trans (bc13.mono bc1.size)
    replace q := q.trans (bc13.mono q.size)
    replace rc7 := rc7.up bc13
    refine LL.val (R.move rfl rfl) rfl rfl rfl ?_
    refine LL.call (R.call rfl rfl rfl) rfl rfl rfl (find_0 _ _ _ _ (by first | assumption | omega) (by first | assumption | omega) (by first | assumption | omega)) ?_
    rintro e Wc19 ⟨rfl, bc18⟩
    refine ⟨_, rfl, ?_⟩
    have zbc18 := bc18.size
    replace hc15 := hc15.up bc18
    replace bc13 := bc13.trans (bc18.mono bc13.size)
    replace bc4 := bc4.trans (bc18.mono bc4.size)
    replace bc1 := bc1.trans (bc18.mono bc1.size)
    replace q := q.trans (bc18.mono q.size)
    replace rc7 := rc7.up bc18
    refine LL.val (R.move rfl rfl) rfl rfl rfl ?_
    refine LL.val (R.extract rfl rfl rfl) rfl rfl rfl ?_
    refine LL.val (R.extract rfl rfl rfl) rfl rfl rfl ?_
    refine LL.val (R.assign rfl rfl) rfl rfl rfl ?_
    refine LL.val (R.assign rfl rfl) rfl rfl rfl ?_
    refine LL.nilS ?_
    refine CC.seq ?_
    refine CC.seq ?_
    refine CC.region ?_
    refine LL.val (R.move rfl rfl) rfl rfl rfl ?_
    refine LL.call (R.call rfl rfl rfl) rfl rfl rfl (lent_r l _ _ (hvF _ q) hlen) ?_
    rintro e Wc22 ⟨vc24, rfl, hc23, bc21⟩
    refine ⟨_, rfl, ?_⟩
    have zbc21 := bc21.size
    replace bc18 := bc18.trans (bc21.mono bc18.size)
    replace hc15 := hc15.up bc21
    replace bc13 := bc13.trans (bc21.mono bc13.size)
    replace bc4 := bc4.trans (bc21.mono bc4.size)
    replace bc1 := bc1.trans (bc21.mono bc1.size)
    replace q := q.trans (bc21.mono q.size)
    replace rc7 := rc7.up bc21
    refine LL.call (R.call rfl rfl rfl) rfl rfl rfl (check_T _ _ _ (by first | assumption | omega) (by first | assumption | omega) (by first | assumption | omega)) ?_
    rintro e Wc27 ⟨rfl, bc26⟩
    refine ⟨_, rfl, ?_⟩
    have zbc26 := bc26.size
    replace hc23 := hc23.up bc26
    replace bc21 := bc21.trans (bc26.mono bc21.size)
    replace bc18 := bc18.trans (bc26.mono bc18.size)
    replace hc15 := hc15.up bc26
    replace bc13 := bc13.trans (bc26.mono bc13.size)
    replace bc4 := bc4.trans (bc26.mono bc4.size)
    replace bc1 := bc1.trans (bc26.mono bc1.size)
    replace q := q.trans (bc26.mono q.size)
    replace rc7 := rc7.up bc26
    refine LL.call (R.call rfl rfl rfl) rfl rfl rfl (num_any _ _) ?_
    rintro e W' ⟨rfl, rfl⟩
    refine ⟨_, rfl, ?_⟩
    refine LL.val (R.eqT rfl rfl rfl (by omega)) rfl rfl rfl ?_
    refine LL.val (R.move rfl rfl) rfl rfl rfl ?_
    refine LL.val (R.neBool rfl rfl rfl rfl rfl) rfl rfl rfl ?_
    refine LL.val (R.move rfl rfl) rfl rfl rfl ?_
    refine LL.val (R.move rfl rfl) rfl rfl rfl ?_
    refine LL.call (R.call rfl rfl rfl) rfl rfl rfl (check_T _ _ _ (hvF _ q) hlen h) ?_
    rintro e Wc30 ⟨rfl, bc29⟩
    refine ⟨_, rfl, ?_⟩
    have zbc29 := bc29.size
    replace bc26 := bc26.trans (bc29.mono bc26.size)
    replace hc23 := hc23.up bc29
    replace bc21 := bc21.trans (bc29.mono bc21.size)
    replace bc18 := bc18.trans (bc29.mono bc18.size)
    replace hc15 := hc15.up bc29
    replace bc13 := bc13.trans (bc29.mono bc13.size)
    replace bc4 := bc4.trans (bc29.mono bc4.size)
    replace bc1 := bc1.trans (bc29.mono bc1.size)
    replace q := q.trans (bc29.mono q.size)
    replace rc7 := rc7.up bc29
    refine LL.call (R.call rfl rfl rfl) rfl rfl rfl (num_any _ _) ?_
    rintro e W' ⟨rfl, rfl⟩
    refine ⟨_, rfl, ?_⟩
    refine LL.val (R.neF rfl rfl rfl (by omega)) rfl rfl rfl ?_
    refine LL.val (R.move rfl rfl) rfl rfl rfl ?_
    refine LL.skip rfl rfl ?_
    refine LL.skip rfl rfl ?_
    refine LL.skip rfl rfl ?_
    refine LL.skip rfl rfl ?_
    refine LL.val (R.pick rfl rfl rfl) rfl rfl rfl ?_
    refine LL.val (R.pick rfl rfl rfl) rfl rfl rfl ?_
    refine LL.val (R.move rfl rfl) rfl rfl rfl ?_
    refine LL.val (R.move rfl rfl) rfl rfl rfl ?_
    refine LL.call (R.call rfl rfl rfl) rfl rfl rfl (nblocks_any _ _ _ (hvF _ q) hlen) ?_
    rintro e Wc33 ⟨rfl, bc32⟩
    refine ⟨_, rfl, ?_⟩
    have zbc32 := bc32.size
    replace bc29 := bc29.trans (bc32.mono bc29.size)
    replace bc26 := bc26.trans (bc32.mono bc26.size)
    replace hc23 := hc23.up bc32
    replace bc21 := bc21.trans (bc32.mono bc21.size)
    replace bc18 := bc18.trans (bc32.mono bc18.size)
    replace hc15 := hc15.up bc32
    replace bc13 := bc13.trans (bc32.mono bc13.size)
    replace bc4 := bc4.trans (bc32.mono bc4.size)
    replace bc1 := bc1.trans (bc32.mono bc1.size)
    replace q := q.trans (bc32.mono q.size)
    replace rc7 := rc7.up bc32
    refine LL.val (R.move rfl rfl) rfl rfl rfl ?_
    refine LL.call (R.call rfl rfl rfl) rfl rfl rfl (rblocks_any _ _ _ (hvF _ q) hlen) ?_
    rintro e Wc36 ⟨rfl, bc35⟩
    refine ⟨_, rfl, ?_⟩
    have zbc35 := bc35.size
    replace bc32 := bc32.trans (bc35.mono bc32.size)
    replace bc29 := bc29.trans (bc35.mono bc29.size)
    replace bc26 := bc26.trans (bc35.mono bc26.size)
    replace hc23 := hc23.up bc35
    replace bc21 := bc21.trans (bc35.mono bc21.size)
    replace bc18 := bc18.trans (bc35.mono bc18.size)
    replace hc15 := hc15.up bc35
    replace bc13 := bc13.trans (bc35.mono bc13.size)
    replace bc4 := bc4.trans (bc35.mono bc4.size)
    replace bc1 := bc1.trans (bc35.mono bc1.size)
    replace q := q.trans (bc35.mono q.size)
    replace rc7 := rc7.up bc35
    refine LL.val (R.neF rfl rfl rfl (by omega)) rfl rfl rfl ?_
    refine LL.val (R.pick rfl rfl rfl) rfl rfl rfl ?_
    refine LL.nilS ?_
    refine CC.no rfl ?_
    refine CC.skip ?_
    refine EE.thenN ?_
    refine CC.seq ?_
    refine CC.seq ?_
    refine CC.region ?_
    refine LL.val (R.move rfl rfl) rfl rfl rfl ?_
    refine LL.val (R.not rfl rfl) rfl rfl rfl ?_
    refine LL.val (R.move rfl rfl) rfl rfl rfl ?_
    refine LL.val (R.move rfl rfl) rfl rfl rfl ?_
    refine LL.val (R.ltF rfl rfl rfl (by omega)) rfl rfl rfl ?_
    refine LL.val (R.pick rfl rfl rfl) rfl rfl rfl ?_
    refine LL.val (R.move rfl rfl) rfl rfl rfl ?_
    refine LL.val (R.move rfl rfl) rfl rfl rfl ?_
    refine LL.val (R.gtT rfl rfl rfl (by omega)) rfl rfl rfl ?_
    refine LL.val (R.pick rfl rfl rfl) rfl rfl rfl ?_
    refine LL.val (R.move rfl rfl) rfl rfl rfl ?_
    refine LL.skip rfl rfl ?_
    refine LL.skip rfl rfl ?_
    refine LL.skip rfl rfl ?_
    refine LL.skip rfl rfl ?_
    refine LL.val (R.pick rfl rfl rfl) rfl rfl rfl ?_
    refine LL.nilS ?_
    refine CC.yes rfl ?_
    refine CC.seq ?_
    refine CC.region ?_
    refine LL.val (R.move rfl rfl) rfl rfl rfl ?_
    refine LL.val (R.eqT rfl rfl rfl (by omega)) rfl rfl rfl ?_
    refine LL.val (R.move rfl rfl) rfl rfl rfl ?_
    refine LL.val (R.move rfl rfl) rfl rfl rfl ?_
    refine LL.val (R.not rfl rfl) rfl rfl rfl ?_
    refine LL.val (R.pick rfl rfl rfl) rfl rfl rfl ?_
    refine LL.val (R.move rfl rfl) rfl rfl rfl ?_
    refine LL.call (R.call rfl rfl rfl) rfl rfl rfl (works_any _ (hsF _ q)) ?_
    rintro e Wc39 ⟨rfl, bc38⟩
    refine ⟨_, rfl, ?_⟩
    have zbc38 := bc38.size
    replace bc35 := bc35.trans (bc38.mono bc35.size)
    replace bc32 := bc32.trans (bc38.mono bc32.size)
    replace bc29 := bc29.trans (bc38.mono bc29.size)
    replace bc26 := bc26.trans (bc38.mono bc26.size)
    replace hc23 := hc23.up bc38
    replace bc21 := bc21.trans (bc38.mono bc21.size)
    replace bc18 := bc18.trans (bc38.mono bc18.size)
    replace hc15 := hc15.up bc38
    replace bc13 := bc13.trans (bc38.mono bc13.size)
    replace bc4 := bc4.trans (bc38.mono bc4.size)
    replace bc1 := bc1.trans (bc38.mono bc1.size)
    replace q := q.trans (bc38.mono q.size)
    replace rc7 := rc7.up bc38
    refine LL.val (R.pick rfl rfl rfl) rfl rfl rfl ?_
    refine LL.val (R.assign rfl rfl) rfl rfl rfl ?_
    refine LL.nilS ?_
    refine CC.ret ?_
    refine EE.thenR ?_
    refine EE.ret _ rfl rfl ?_
    exact ⟨rfl, q⟩
  obtain ⟨i, rfl⟩ := Int.eq_ofNat_of_zero_le (show 0 ≤ B by omega)
  have hpl := plL_len l
  obtain ⟨z, hzz⟩ : ∃ z, (plL l)[i]? = some z := ⟨_, List.getElem?_eq_getElem (by omega)⟩
  have hz := fnd_at h (i := i) (by omega)
  rw [hzz] at hz
  simp only [Option.getD_some] at hz
  by_cases h0 : z = 0
  · subst h0
    refine X.fn Tryd.func3 rfl (n := 87) rfl rfl ?_
    refine CC.seq ?_
    refine CC.region ?_
    refine LL.val (R.assign rfl rfl) rfl rfl rfl ?_
    refine LL.nilS ?_
    refine CC.seq ?_
    refine CC.seq ?_
    refine CC.region ?_
    refine LL.val (R.move rfl rfl) rfl rfl rfl ?_
    refine LL.val (R.len rfl rfl rfl rfl) rfl rfl rfl ?_
    refine LL.val (R.gtF rfl rfl rfl (by omega)) rfl rfl rfl ?_
    refine LL.nilS ?_
    refine CC.no rfl ?_
    refine CC.skip ?_
    refine EE.thenN ?_
    refine CC.seq ?_
    refine CC.region ?_
    refine LL.val (R.move rfl rfl) rfl rfl rfl ?_
    refine LL.call (R.call rfl rfl rfl) rfl rfl rfl (rof_T l _ _ (hvF _ q) hlen h) ?_
    rintro e Wd2 ⟨rfl, bd1⟩
    refine ⟨_, rfl, ?_⟩
    have zbd1 := bd1.size
    replace q := q.trans (bd1.mono q.size)
    refine LL.val (R.move rfl rfl) rfl rfl rfl ?_
    refine LL.val (R.extract rfl rfl rfl) rfl rfl rfl ?_
    refine LL.val (R.extract rfl rfl rfl) rfl rfl rfl ?_
    refine LL.alloc (intsZ .i64 (List.replicate 128 0)) rfl rfl rfl rfl rfl ?_
    intro Wd5 gd6 egd6 rd7 zd8 bd4
    replace bd1 := bd1.trans (bd4.mono bd1.size)
    replace q := q.trans (bd4.mono q.size)
    refine LL.storeAZ rfl rfl rfl rfl (by first | assumption | exact List.length_replicate | exact plL_len _ | exact plOf_len _ | simp) rd7 (by first | (rw [List.length_map]; exact (by first | assumption | exact List.length_replicate | exact plL_len _ | exact plOf_len _ | simp)) | simp) rfl rfl ?_
    intro Wd10 rd11 bd9 zd12
    have hlbd9 := rd7.lt
    clear rd7
    replace bd4 := bd4.grown bd9 bd4.size (by rintro k ⟨⟩; omega)
    replace bd1 := bd1.grown bd9 bd1.size (by rintro k ⟨⟩; omega)
    replace q := q.grown bd9 q.size (by rintro k ⟨⟩; omega)
    have rd7 := rd11
    clear rd11
    refine LL.val (R.assign rfl rfl) rfl rfl rfl ?_
    refine LL.nilS ?_
    refine CC.seq ?_
    refine CC.region ?_
    refine LL.val (R.move rfl rfl) rfl rfl rfl ?_
    refine LL.call (R.call rfl rfl rfl) rfl rfl rfl (lent_r l _ _ (hvF _ q) hlen) ?_
    rintro e Wd14 ⟨vd16, rfl, hd15, bd13⟩
    refine ⟨_, rfl, ?_⟩
    have zbd13 := bd13.size
    replace bd4 := bd4.trans (bd13.mono bd4.size)
    replace bd1 := bd1.trans (bd13.mono bd1.size)
    replace q := q.trans (bd13.mono q.size)
    replace rd7 := rd7.up bd13
    refine LL.val (R.move rfl rfl) rfl rfl rfl ?_
    refine LL.call (R.call rfl rfl rfl) rfl rfl rfl (find_0 _ _ _ _ (by first | assumption | omega) (by first | assumption | omega) (by first | assumption | omega)) ?_
    rintro e Wd19 ⟨rfl, bd18⟩
    refine ⟨_, rfl, ?_⟩
    have zbd18 := bd18.size
    replace hd15 := hd15.up bd18
    replace bd13 := bd13.trans (bd18.mono bd13.size)
    replace bd4 := bd4.trans (bd18.mono bd4.size)
    replace bd1 := bd1.trans (bd18.mono bd1.size)
    replace q := q.trans (bd18.mono q.size)
    replace rd7 := rd7.up bd18
    refine LL.val (R.move rfl rfl) rfl rfl rfl ?_
    refine LL.val (R.extract rfl rfl rfl) rfl rfl rfl ?_
    refine LL.val (R.extract rfl rfl rfl) rfl rfl rfl ?_
    refine LL.val (R.assign rfl rfl) rfl rfl rfl ?_
    refine LL.val (R.assign rfl rfl) rfl rfl rfl ?_
    refine LL.nilS ?_
    refine CC.seq ?_
    refine CC.seq ?_
    refine CC.region ?_
    refine LL.val (R.move rfl rfl) rfl rfl rfl ?_
    refine LL.call (R.call rfl rfl rfl) rfl rfl rfl (lent_r l _ _ (hvF _ q) hlen) ?_
    rintro e Wd22 ⟨vd24, rfl, hd23, bd21⟩
    refine ⟨_, rfl, ?_⟩
    have zbd21 := bd21.size
    replace bd18 := bd18.trans (bd21.mono bd18.size)
    replace hd15 := hd15.up bd21
    replace bd13 := bd13.trans (bd21.mono bd13.size)
    replace bd4 := bd4.trans (bd21.mono bd4.size)
    replace bd1 := bd1.trans (bd21.mono bd1.size)
    replace q := q.trans (bd21.mono q.size)
    replace rd7 := rd7.up bd21
    refine LL.call (R.call rfl rfl rfl) rfl rfl rfl (check_T _ _ _ (by first | assumption | omega) (by first | assumption | omega) (by first | assumption | omega)) ?_
    rintro e Wd27 ⟨rfl, bd26⟩
    refine ⟨_, rfl, ?_⟩
    have zbd26 := bd26.size
    replace hd23 := hd23.up bd26
    replace bd21 := bd21.trans (bd26.mono bd21.size)
    replace bd18 := bd18.trans (bd26.mono bd18.size)
    replace hd15 := hd15.up bd26
    replace bd13 := bd13.trans (bd26.mono bd13.size)
    replace bd4 := bd4.trans (bd26.mono bd4.size)
    replace bd1 := bd1.trans (bd26.mono bd1.size)
    replace q := q.trans (bd26.mono q.size)
    replace rd7 := rd7.up bd26
    refine LL.call (R.call rfl rfl rfl) rfl rfl rfl (num_any _ _) ?_
    rintro e W' ⟨rfl, rfl⟩
    refine ⟨_, rfl, ?_⟩
    refine LL.val (R.eqT rfl rfl rfl (by omega)) rfl rfl rfl ?_
    refine LL.val (R.move rfl rfl) rfl rfl rfl ?_
    refine LL.val (R.neBool rfl rfl rfl rfl rfl) rfl rfl rfl ?_
    refine LL.val (R.move rfl rfl) rfl rfl rfl ?_
    refine LL.val (R.move rfl rfl) rfl rfl rfl ?_
    refine LL.call (R.call rfl rfl rfl) rfl rfl rfl (check_T _ _ _ (hvF _ q) hlen h) ?_
    rintro e Wd30 ⟨rfl, bd29⟩
    refine ⟨_, rfl, ?_⟩
    have zbd29 := bd29.size
    replace bd26 := bd26.trans (bd29.mono bd26.size)
    replace hd23 := hd23.up bd29
    replace bd21 := bd21.trans (bd29.mono bd21.size)
    replace bd18 := bd18.trans (bd29.mono bd18.size)
    replace hd15 := hd15.up bd29
    replace bd13 := bd13.trans (bd29.mono bd13.size)
    replace bd4 := bd4.trans (bd29.mono bd4.size)
    replace bd1 := bd1.trans (bd29.mono bd1.size)
    replace q := q.trans (bd29.mono q.size)
    replace rd7 := rd7.up bd29
    refine LL.call (R.call rfl rfl rfl) rfl rfl rfl (num_any _ _) ?_
    rintro e W' ⟨rfl, rfl⟩
    refine ⟨_, rfl, ?_⟩
    refine LL.val (R.neF rfl rfl rfl (by omega)) rfl rfl rfl ?_
    refine LL.val (R.move rfl rfl) rfl rfl rfl ?_
    refine LL.skip rfl rfl ?_
    refine LL.skip rfl rfl ?_
    refine LL.skip rfl rfl ?_
    refine LL.skip rfl rfl ?_
    refine LL.val (R.pick rfl rfl rfl) rfl rfl rfl ?_
    refine LL.val (R.pick rfl rfl rfl) rfl rfl rfl ?_
    refine LL.val (R.move rfl rfl) rfl rfl rfl ?_
    refine LL.val (R.move rfl rfl) rfl rfl rfl ?_
    refine LL.call (R.call rfl rfl rfl) rfl rfl rfl (nblocks_any _ _ _ (hvF _ q) hlen) ?_
    rintro e Wd33 ⟨rfl, bd32⟩
    refine ⟨_, rfl, ?_⟩
    have zbd32 := bd32.size
    replace bd29 := bd29.trans (bd32.mono bd29.size)
    replace bd26 := bd26.trans (bd32.mono bd26.size)
    replace hd23 := hd23.up bd32
    replace bd21 := bd21.trans (bd32.mono bd21.size)
    replace bd18 := bd18.trans (bd32.mono bd18.size)
    replace hd15 := hd15.up bd32
    replace bd13 := bd13.trans (bd32.mono bd13.size)
    replace bd4 := bd4.trans (bd32.mono bd4.size)
    replace bd1 := bd1.trans (bd32.mono bd1.size)
    replace q := q.trans (bd32.mono q.size)
    replace rd7 := rd7.up bd32
    refine LL.val (R.move rfl rfl) rfl rfl rfl ?_
    refine LL.call (R.call rfl rfl rfl) rfl rfl rfl (rblocks_any _ _ _ (hvF _ q) hlen) ?_
    rintro e Wd36 ⟨rfl, bd35⟩
    refine ⟨_, rfl, ?_⟩
    have zbd35 := bd35.size
    replace bd32 := bd32.trans (bd35.mono bd32.size)
    replace bd29 := bd29.trans (bd35.mono bd29.size)
    replace bd26 := bd26.trans (bd35.mono bd26.size)
    replace hd23 := hd23.up bd35
    replace bd21 := bd21.trans (bd35.mono bd21.size)
    replace bd18 := bd18.trans (bd35.mono bd18.size)
    replace hd15 := hd15.up bd35
    replace bd13 := bd13.trans (bd35.mono bd13.size)
    replace bd4 := bd4.trans (bd35.mono bd4.size)
    replace bd1 := bd1.trans (bd35.mono bd1.size)
    replace q := q.trans (bd35.mono q.size)
    replace rd7 := rd7.up bd35
    refine LL.val (R.neF rfl rfl rfl (by omega)) rfl rfl rfl ?_
    refine LL.val (R.pick rfl rfl rfl) rfl rfl rfl ?_
    refine LL.nilS ?_
    refine CC.no rfl ?_
    refine CC.skip ?_
    refine EE.thenN ?_
    refine CC.seq ?_
    refine CC.seq ?_
    refine CC.region ?_
    refine LL.val (R.move rfl rfl) rfl rfl rfl ?_
    refine LL.val (R.not rfl rfl) rfl rfl rfl ?_
    refine LL.val (R.move rfl rfl) rfl rfl rfl ?_
    refine LL.val (R.move rfl rfl) rfl rfl rfl ?_
    refine LL.val (R.ltF rfl rfl rfl (by omega)) rfl rfl rfl ?_
    refine LL.val (R.pick rfl rfl rfl) rfl rfl rfl ?_
    refine LL.val (R.move rfl rfl) rfl rfl rfl ?_
    refine LL.val (R.move rfl rfl) rfl rfl rfl ?_
    refine LL.val (R.gtF rfl rfl rfl (by omega)) rfl rfl rfl ?_
    refine LL.val (R.pick rfl rfl rfl) rfl rfl rfl ?_
    refine LL.val (R.move rfl rfl) rfl rfl rfl ?_
    refine LL.val (R.move rfl rfl) rfl rfl rfl ?_
    refine LL.val (R.index rfl rfl rfl (I.ixA1 rfl (by omega))) rfl rfl rfl ?_
    have c1 := RowL.cell (j := 0 + i) rd7 (by rw [show 0 + i = i by omega, List.getElem?_map, hzz]; rfl)
    refine LL.val (R.load rfl rfl (I.ld1 rfl (by assumption))) rfl rfl rfl ?_
    refine LL.val (R.eqT rfl rfl rfl (by omega)) rfl rfl rfl ?_
    refine LL.val (R.pick rfl rfl rfl) rfl rfl rfl ?_
    refine LL.nilS ?_
    refine CC.yes rfl ?_
    refine CC.seq ?_
    refine CC.region ?_
    refine LL.val (R.move rfl rfl) rfl rfl rfl ?_
    refine LL.val (R.eqT rfl rfl rfl (by omega)) rfl rfl rfl ?_
    refine LL.val (R.move rfl rfl) rfl rfl rfl ?_
    refine LL.val (R.move rfl rfl) rfl rfl rfl ?_
    refine LL.val (R.not rfl rfl) rfl rfl rfl ?_
    refine LL.val (R.pick rfl rfl rfl) rfl rfl rfl ?_
    refine LL.val (R.move rfl rfl) rfl rfl rfl ?_
    refine LL.call (R.call rfl rfl rfl) rfl rfl rfl (works_any _ (hsF _ q)) ?_
    rintro e We2 ⟨rfl, be1⟩
    refine ⟨_, rfl, ?_⟩
    have zbe1 := be1.size
    replace bd35 := bd35.trans (be1.mono bd35.size)
    replace bd32 := bd32.trans (be1.mono bd32.size)
    replace bd29 := bd29.trans (be1.mono bd29.size)
    replace bd26 := bd26.trans (be1.mono bd26.size)
    replace hd23 := hd23.up be1
    replace bd21 := bd21.trans (be1.mono bd21.size)
    replace bd18 := bd18.trans (be1.mono bd18.size)
    replace hd15 := hd15.up be1
    replace bd13 := bd13.trans (be1.mono bd13.size)
    replace bd4 := bd4.trans (be1.mono bd4.size)
    replace bd1 := bd1.trans (be1.mono bd1.size)
    replace q := q.trans (be1.mono q.size)
    replace rd7 := rd7.up be1
    replace c1 := cell_up c1 be1
    refine LL.val (R.pick rfl rfl rfl) rfl rfl rfl ?_
    refine LL.val (R.assign rfl rfl) rfl rfl rfl ?_
    refine LL.nilS ?_
    refine CC.ret ?_
    refine EE.thenR ?_
    refine EE.ret _ rfl rfl ?_
    exact ⟨rfl, q⟩
  · refine X.fn Tryd.func3 rfl (n := 87) rfl rfl ?_
    refine CC.seq ?_
    refine CC.region ?_
    refine LL.val (R.assign rfl rfl) rfl rfl rfl ?_
    refine LL.nilS ?_
    refine CC.seq ?_
    refine CC.seq ?_
    refine CC.region ?_
    refine LL.val (R.move rfl rfl) rfl rfl rfl ?_
    refine LL.val (R.len rfl rfl rfl rfl) rfl rfl rfl ?_
    refine LL.val (R.gtF rfl rfl rfl (by omega)) rfl rfl rfl ?_
    refine LL.nilS ?_
    refine CC.no rfl ?_
    refine CC.skip ?_
    refine EE.thenN ?_
    refine CC.seq ?_
    refine CC.region ?_
    refine LL.val (R.move rfl rfl) rfl rfl rfl ?_
    refine LL.call (R.call rfl rfl rfl) rfl rfl rfl (rof_T l _ _ (hvF _ q) hlen h) ?_
    rintro e Wf2 ⟨rfl, bf1⟩
    refine ⟨_, rfl, ?_⟩
    have zbf1 := bf1.size
    replace q := q.trans (bf1.mono q.size)
    refine LL.val (R.move rfl rfl) rfl rfl rfl ?_
    refine LL.val (R.extract rfl rfl rfl) rfl rfl rfl ?_
    refine LL.val (R.extract rfl rfl rfl) rfl rfl rfl ?_
    refine LL.alloc (intsZ .i64 (List.replicate 128 0)) rfl rfl rfl rfl rfl ?_
    intro Wf5 gf6 egf6 rf7 zf8 bf4
    replace bf1 := bf1.trans (bf4.mono bf1.size)
    replace q := q.trans (bf4.mono q.size)
    refine LL.storeAZ rfl rfl rfl rfl (by first | assumption | exact List.length_replicate | exact plL_len _ | exact plOf_len _ | simp) rf7 (by first | (rw [List.length_map]; exact (by first | assumption | exact List.length_replicate | exact plL_len _ | exact plOf_len _ | simp)) | simp) rfl rfl ?_
    intro Wf10 rf11 bf9 zf12
    have hlbf9 := rf7.lt
    clear rf7
    replace bf4 := bf4.grown bf9 bf4.size (by rintro k ⟨⟩; omega)
    replace bf1 := bf1.grown bf9 bf1.size (by rintro k ⟨⟩; omega)
    replace q := q.grown bf9 q.size (by rintro k ⟨⟩; omega)
    have rf7 := rf11
    clear rf11
    refine LL.val (R.assign rfl rfl) rfl rfl rfl ?_
    refine LL.nilS ?_
    refine CC.seq ?_
    refine CC.region ?_
    refine LL.val (R.move rfl rfl) rfl rfl rfl ?_
    refine LL.call (R.call rfl rfl rfl) rfl rfl rfl (lent_r l _ _ (hvF _ q) hlen) ?_
    rintro e Wf14 ⟨vf16, rfl, hf15, bf13⟩
    refine ⟨_, rfl, ?_⟩
    have zbf13 := bf13.size
    replace bf4 := bf4.trans (bf13.mono bf4.size)
    replace bf1 := bf1.trans (bf13.mono bf1.size)
    replace q := q.trans (bf13.mono q.size)
    replace rf7 := rf7.up bf13
    refine LL.val (R.move rfl rfl) rfl rfl rfl ?_
    refine LL.call (R.call rfl rfl rfl) rfl rfl rfl (find_T _ _ _ _ _ (by first | assumption | omega) (by first | assumption | omega) (by first | assumption | omega) (by first | assumption | omega)) ?_
    rintro e Wf19 ⟨rfl, bf18⟩
    refine ⟨_, rfl, ?_⟩
    have zbf18 := bf18.size
    replace hf15 := hf15.up bf18
    replace bf13 := bf13.trans (bf18.mono bf13.size)
    replace bf4 := bf4.trans (bf18.mono bf4.size)
    replace bf1 := bf1.trans (bf18.mono bf1.size)
    replace q := q.trans (bf18.mono q.size)
    replace rf7 := rf7.up bf18
    refine LL.val (R.move rfl rfl) rfl rfl rfl ?_
    refine LL.val (R.extract rfl rfl rfl) rfl rfl rfl ?_
    refine LL.val (R.extract rfl rfl rfl) rfl rfl rfl ?_
    refine LL.val (R.assign rfl rfl) rfl rfl rfl ?_
    refine LL.val (R.assign rfl rfl) rfl rfl rfl ?_
    refine LL.nilS ?_
    refine CC.seq ?_
    refine CC.seq ?_
    refine CC.region ?_
    refine LL.val (R.move rfl rfl) rfl rfl rfl ?_
    refine LL.call (R.call rfl rfl rfl) rfl rfl rfl (lent_r l _ _ (hvF _ q) hlen) ?_
    rintro e Wf22 ⟨vf24, rfl, hf23, bf21⟩
    refine ⟨_, rfl, ?_⟩
    have zbf21 := bf21.size
    replace bf18 := bf18.trans (bf21.mono bf18.size)
    replace hf15 := hf15.up bf21
    replace bf13 := bf13.trans (bf21.mono bf13.size)
    replace bf4 := bf4.trans (bf21.mono bf4.size)
    replace bf1 := bf1.trans (bf21.mono bf1.size)
    replace q := q.trans (bf21.mono q.size)
    replace rf7 := rf7.up bf21
    refine LL.call (R.call rfl rfl rfl) rfl rfl rfl (check_T _ _ _ (by first | assumption | omega) (by first | assumption | omega) (by first | assumption | omega)) ?_
    rintro e Wf27 ⟨rfl, bf26⟩
    refine ⟨_, rfl, ?_⟩
    have zbf26 := bf26.size
    replace hf23 := hf23.up bf26
    replace bf21 := bf21.trans (bf26.mono bf21.size)
    replace bf18 := bf18.trans (bf26.mono bf18.size)
    replace hf15 := hf15.up bf26
    replace bf13 := bf13.trans (bf26.mono bf13.size)
    replace bf4 := bf4.trans (bf26.mono bf4.size)
    replace bf1 := bf1.trans (bf26.mono bf1.size)
    replace q := q.trans (bf26.mono q.size)
    replace rf7 := rf7.up bf26
    refine LL.call (R.call rfl rfl rfl) rfl rfl rfl (num_any _ _) ?_
    rintro e W' ⟨rfl, rfl⟩
    refine ⟨_, rfl, ?_⟩
    refine LL.val (R.eqT rfl rfl rfl (by omega)) rfl rfl rfl ?_
    refine LL.val (R.move rfl rfl) rfl rfl rfl ?_
    refine LL.val (R.neBool rfl rfl rfl rfl rfl) rfl rfl rfl ?_
    refine LL.val (R.move rfl rfl) rfl rfl rfl ?_
    refine LL.val (R.move rfl rfl) rfl rfl rfl ?_
    refine LL.call (R.call rfl rfl rfl) rfl rfl rfl (check_T _ _ _ (hvF _ q) hlen h) ?_
    rintro e Wf30 ⟨rfl, bf29⟩
    refine ⟨_, rfl, ?_⟩
    have zbf29 := bf29.size
    replace bf26 := bf26.trans (bf29.mono bf26.size)
    replace hf23 := hf23.up bf29
    replace bf21 := bf21.trans (bf29.mono bf21.size)
    replace bf18 := bf18.trans (bf29.mono bf18.size)
    replace hf15 := hf15.up bf29
    replace bf13 := bf13.trans (bf29.mono bf13.size)
    replace bf4 := bf4.trans (bf29.mono bf4.size)
    replace bf1 := bf1.trans (bf29.mono bf1.size)
    replace q := q.trans (bf29.mono q.size)
    replace rf7 := rf7.up bf29
    refine LL.call (R.call rfl rfl rfl) rfl rfl rfl (num_any _ _) ?_
    rintro e W' ⟨rfl, rfl⟩
    refine ⟨_, rfl, ?_⟩
    refine LL.val (R.neF rfl rfl rfl (by omega)) rfl rfl rfl ?_
    refine LL.val (R.move rfl rfl) rfl rfl rfl ?_
    refine LL.skip rfl rfl ?_
    refine LL.skip rfl rfl ?_
    refine LL.skip rfl rfl ?_
    refine LL.skip rfl rfl ?_
    refine LL.val (R.pick rfl rfl rfl) rfl rfl rfl ?_
    refine LL.val (R.pick rfl rfl rfl) rfl rfl rfl ?_
    refine LL.val (R.move rfl rfl) rfl rfl rfl ?_
    refine LL.val (R.move rfl rfl) rfl rfl rfl ?_
    refine LL.call (R.call rfl rfl rfl) rfl rfl rfl (nblocks_any _ _ _ (hvF _ q) hlen) ?_
    rintro e Wf33 ⟨rfl, bf32⟩
    refine ⟨_, rfl, ?_⟩
    have zbf32 := bf32.size
    replace bf29 := bf29.trans (bf32.mono bf29.size)
    replace bf26 := bf26.trans (bf32.mono bf26.size)
    replace hf23 := hf23.up bf32
    replace bf21 := bf21.trans (bf32.mono bf21.size)
    replace bf18 := bf18.trans (bf32.mono bf18.size)
    replace hf15 := hf15.up bf32
    replace bf13 := bf13.trans (bf32.mono bf13.size)
    replace bf4 := bf4.trans (bf32.mono bf4.size)
    replace bf1 := bf1.trans (bf32.mono bf1.size)
    replace q := q.trans (bf32.mono q.size)
    replace rf7 := rf7.up bf32
    refine LL.val (R.move rfl rfl) rfl rfl rfl ?_
    refine LL.call (R.call rfl rfl rfl) rfl rfl rfl (rblocks_any _ _ _ (hvF _ q) hlen) ?_
    rintro e Wf36 ⟨rfl, bf35⟩
    refine ⟨_, rfl, ?_⟩
    have zbf35 := bf35.size
    replace bf32 := bf32.trans (bf35.mono bf32.size)
    replace bf29 := bf29.trans (bf35.mono bf29.size)
    replace bf26 := bf26.trans (bf35.mono bf26.size)
    replace hf23 := hf23.up bf35
    replace bf21 := bf21.trans (bf35.mono bf21.size)
    replace bf18 := bf18.trans (bf35.mono bf18.size)
    replace hf15 := hf15.up bf35
    replace bf13 := bf13.trans (bf35.mono bf13.size)
    replace bf4 := bf4.trans (bf35.mono bf4.size)
    replace bf1 := bf1.trans (bf35.mono bf1.size)
    replace q := q.trans (bf35.mono q.size)
    replace rf7 := rf7.up bf35
    refine LL.val (R.neF rfl rfl rfl (by omega)) rfl rfl rfl ?_
    refine LL.val (R.pick rfl rfl rfl) rfl rfl rfl ?_
    refine LL.nilS ?_
    refine CC.no rfl ?_
    refine CC.skip ?_
    refine EE.thenN ?_
    refine CC.seq ?_
    refine CC.seq ?_
    refine CC.region ?_
    refine LL.val (R.move rfl rfl) rfl rfl rfl ?_
    refine LL.val (R.not rfl rfl) rfl rfl rfl ?_
    refine LL.val (R.move rfl rfl) rfl rfl rfl ?_
    refine LL.val (R.move rfl rfl) rfl rfl rfl ?_
    refine LL.val (R.ltF rfl rfl rfl (by omega)) rfl rfl rfl ?_
    refine LL.val (R.pick rfl rfl rfl) rfl rfl rfl ?_
    refine LL.val (R.move rfl rfl) rfl rfl rfl ?_
    refine LL.val (R.move rfl rfl) rfl rfl rfl ?_
    refine LL.val (R.gtF rfl rfl rfl (by omega)) rfl rfl rfl ?_
    refine LL.val (R.pick rfl rfl rfl) rfl rfl rfl ?_
    refine LL.val (R.move rfl rfl) rfl rfl rfl ?_
    refine LL.val (R.move rfl rfl) rfl rfl rfl ?_
    refine LL.val (R.index rfl rfl rfl (I.ixA1 rfl (by omega))) rfl rfl rfl ?_
    have c1 := RowL.cell (j := 0 + i) rf7 (by rw [show 0 + i = i by omega, List.getElem?_map, hzz]; rfl)
    refine LL.val (R.load rfl rfl (I.ld1 rfl (by assumption))) rfl rfl rfl ?_
    refine LL.val (R.eqF rfl rfl rfl (by omega)) rfl rfl rfl ?_
    refine LL.val (R.pick rfl rfl rfl) rfl rfl rfl ?_
    refine LL.nilS ?_
    refine CC.no rfl ?_
    refine CC.skip ?_
    refine EE.thenN ?_
    refine CC.seq ?_
    refine CC.region ?_
    refine LL.val (R.move rfl rfl) rfl rfl rfl ?_
    refine LL.val (R.move rfl rfl) rfl rfl rfl ?_
    refine LL.val (R.index rfl rfl rfl (I.ixA1 rfl (by omega))) rfl rfl rfl ?_
    refine LL.val (R.load rfl rfl (I.ld1 rfl (by assumption))) rfl rfl rfl ?_
    refine LL.val (R.eqT rfl rfl rfl (by omega)) rfl rfl rfl ?_
    refine LL.val (R.move rfl rfl) rfl rfl rfl ?_
    refine LL.val (R.move rfl rfl) rfl rfl rfl ?_
    refine LL.val (R.pick rfl rfl rfl) rfl rfl rfl ?_
    refine LL.val (R.move rfl rfl) rfl rfl rfl ?_
    refine LL.call (R.call rfl rfl rfl) rfl rfl rfl (works_any _ (hsF _ q)) ?_
    rintro e Wg2 ⟨rfl, bg1⟩
    refine ⟨_, rfl, ?_⟩
    have zbg1 := bg1.size
    replace bf35 := bf35.trans (bg1.mono bf35.size)
    replace bf32 := bf32.trans (bg1.mono bf32.size)
    replace bf29 := bf29.trans (bg1.mono bf29.size)
    replace bf26 := bf26.trans (bg1.mono bf26.size)
    replace hf23 := hf23.up bg1
    replace bf21 := bf21.trans (bg1.mono bf21.size)
    replace bf18 := bf18.trans (bg1.mono bf18.size)
    replace hf15 := hf15.up bg1
    replace bf13 := bf13.trans (bg1.mono bf13.size)
    replace bf4 := bf4.trans (bg1.mono bf4.size)
    replace bf1 := bf1.trans (bg1.mono bf1.size)
    replace q := q.trans (bg1.mono q.size)
    replace rf7 := rf7.up bg1
    replace c1 := cell_up c1 bg1
    refine LL.val (R.pick rfl rfl rfl) rfl rfl rfl ?_
    refine LL.val (R.assign rfl rfl) rfl rfl rfl ?_
    refine LL.nilS ?_
    refine CC.ret ?_
    refine EE.ret _ rfl rfl ?_
    exact ⟨rfl, q⟩
end Go.Proofs.YtklfopclaonggaaDoor
