/- ExtentsWords. -/
import Derived.Test.YtklfopclaonggaaDoorEx26
import Derived.Test.YtklfopclaonggaaDoorEx30
namespace Go.Proofs.YtklfopclaonggaaDoor
set_option linter.unusedVariables false
set_option linter.unusedSimpArgs false
open Go.RowKit Go.Shelf
theorem wf_u64 {n : Int} (h : (Lit.int .u64 n).wf = true) : 0 ≤ n ∧ n < 18446744073709551616 := by
  simp [Lit.wf, IntKind.min, IntKind.max, IntKind.signed, IntKind.bits] at h; omega

theorem pk_unp {x : Ex} (h : mayE x) : unpE (pkZ x).toNat = x ∧ pkZ x ≠ 0 ∧ 0 ≤ pkZ x ∧ pkZ x < 18446744073709551616 := by
  obtain ⟨f, d, k, rfl, hf, hd, hk⟩ := pkZ_nat h
  unfold mayE at h
  simp only at h
  have e : pkZ ((f : Int), (d : Int), (k : Int)) = ((f + d * 65536 + k * 1099511627776 : Nat) : Int) := by unfold pkZ; simp only; omega
  rw [e]
  refine ⟨?_, by omega, by omega, by omega⟩
  rw [Int.toNat_natCast]
  unfold unpE
  refine Prod.ext ?_ (Prod.ext ?_ ?_)
  · simp only; omega
  · simp only; omega
  · simp only; omega
theorem outZ_map : ∀ {l : List Ex}, (∀ x ∈ l, mayE x) → outZ (l.map pkZ) = l
  | [], _ => rfl
  | x :: l, h => by
    have h1 := pk_unp (h x (by simp))
    have ih := outZ_map (l := l) fun y hy => h y (by simp [hy])
    unfold outZ at ih ⊢
    rw [List.map_cons, List.filter_cons_of_pos (by simp [h1.2.1]), List.map_cons, h1.1, ih]
theorem outZ_wrdZ {l : List Ex} (h : ∀ x ∈ l, mayE x) : outZ (wrdZ l) = l := by
  have h1 := outZ_map h
  unfold outZ wrdZ at *
  rw [List.filter_append, List.map_append, h1]
  have e : (List.replicate (10 - l.length) (0 : Int)).filter (fun z => decide (z ≠ 0)) = [] := by
    rw [List.filter_eq_nil_iff]
    intro z hz
    rw [(List.mem_replicate.1 hz).2]
    simp
  rw [e, List.map_nil, List.append_nil]
theorem wrdZ_bnd {l : List Ex} (h : ∀ x ∈ l, mayE x) (i : Nat) (z : Int) (hz : (wrdZ l)[i]? = some z) : 0 ≤ z ∧ z < 18446744073709551616 := by
  have hm := List.mem_of_getElem? hz
  unfold wrdZ at hm
  rcases List.mem_append.1 hm with hm | hm
  · obtain ⟨x, hx, rfl⟩ := List.mem_map.1 hm
    exact (pk_unp (h x hx)).2.2
  · rw [(List.mem_replicate.1 hm).2]; omega
theorem mapW_wrdZ {l : List Ex} (h : vL l) : mapW (wrdZ l) := by
  unfold mapW
  rw [outZ_wrdZ h.2.1]
  exact ⟨h, rfl⟩
theorem ofl_T (l : List Ex) (w : World) (hs : Start w) (h : vL l) : Calls Tryd.prog 26 #[wdV (wrdZ l)] w fun e w' => ∃ v, e = .returned (.tuple #[v, .int .i64 0]) ∧ ReadsT eE 3 w' v l ∧ Below w.heap.size w w' :=
  (ofx_any (wrdZ l) w hs (wrdZ_len h.1) (wrdZ_bnd h.2.1)).mono fun e w' ⟨hc, b⟩ => by
    rcases hc with ⟨_, v, h1, h2⟩ | ⟨h1, _⟩
    · rw [outZ_wrdZ h.2.1] at h2
      exact ⟨v, h1, h2, b⟩
    · exact absurd (mapW_wrdZ h) h1
theorem ofw_T (ws : List Int) (w : World) (hs : Start w) (hl : ws.length = 10) (hw : ∀ (i : Nat) (z : Int), ws[i]? = some z → 0 ≤ z ∧ z < 18446744073709551616) (hm : mapW ws) : Calls Tryd.prog 26 #[wdV ws] w fun e w' => ∃ v, e = .returned (.tuple #[v, .int .i64 0]) ∧ ReadsT eE 3 w' v (outZ ws) ∧ Below w.heap.size w w' :=
  (ofx_any ws w hs hl hw).mono fun e w' ⟨hc, b⟩ => by
    rcases hc with ⟨_, v, h1, h2⟩ | ⟨h1, _⟩
    · exact ⟨v, h1, h2, b⟩
    · exact absurd hm h1
theorem ofw_F (ws : List Int) (w : World) (hs : Start w) (hl : ws.length = 10) (hw : ∀ (i : Nat) (z : Int), ws[i]? = some z → 0 ≤ z ∧ z < 18446744073709551616) (hm : ¬mapW ws) : Calls Tryd.prog 26 #[wdV ws] w fun e w' => e = .returned (.tuple #[.slice none 0 0, .int .i64 2]) ∧ Below w.heap.size w w' :=
  (ofx_any ws w hs hl hw).mono fun e w' ⟨hc, b⟩ => by
    rcases hc with ⟨h1, _⟩ | ⟨_, h1⟩
    · exact absurd h1 hm
    · exact ⟨h1, b⟩
theorem rdw_T (ws : List Int) (w : World) (hl : ws.length = 10) (hw : ∀ (i : Nat) (z : Int), ws[i]? = some z → 0 ≤ z ∧ z < 18446744073709551616) (hm : mapW ws) : Calls Tryd.prog 27 #[wdV ws] w fun e w' => ∃ v, e = .returned (.tuple #[v, .int .i64 0]) ∧ ReadsT eE 3 w' v (outZ ws) ∧ Below w.heap.size w w' :=
  (rread_any ws w hl hw).mono fun e w' ⟨hc, b⟩ => by
    rcases hc with ⟨_, v, h1, h2⟩ | ⟨h1, _⟩
    · exact ⟨v, h1, h2, b⟩
    · exact absurd hm h1
theorem rdw_F (ws : List Int) (w : World) (hl : ws.length = 10) (hw : ∀ (i : Nat) (z : Int), ws[i]? = some z → 0 ≤ z ∧ z < 18446744073709551616) (hm : ¬mapW ws) : Calls Tryd.prog 27 #[wdV ws] w fun e w' => e = .returned (.tuple #[.slice none 0 0, .int .i64 2]) ∧ Below w.heap.size w w' :=
  (rread_any ws w hl hw).mono fun e w' ⟨hc, b⟩ => by
    rcases hc with ⟨h1, _⟩ | ⟨_, h1⟩
    · exact absurd h1 hm
    · exact ⟨h1, b⟩
set_option maxRecDepth 100000 in
set_option maxHeartbeats 16000000 in
theorem wordsx (v : Value) (l : List Ex) (ws : List Int) (w : World) (hs : Start w) (hv : ReadsT eE 3 w v l) (hl : ws.length = 10) (hw : ∀ (i : Nat) (z : Int), ws[i]? = some z → 0 ≤ z ∧ z < 18446744073709551616) : Calls Tryd.prog 7 #[v, wdV ws] w fun e w' => e = .returned (.bool true) ∧ Below w.heap.size w w' := by
  have q := Below.refl w.heap.size w
  obtain ⟨N, hN⟩ : ∃ N, l.length = N := ⟨_, rfl⟩
  obtain ⟨a, cap, rfl, hcap⟩ := hv.form hN
  have hvF : ∀ W, Below w.heap.size w W → ReadsT eE 3 W (.slice a N cap) l := fun W hb => hv.up hb
  have hsF : ∀ W, Below w.heap.size w W → Start W := fun W hb => hs.up hb
  clear hs hv
  by_cases h30 : 30 < N
  · refine X.fn Tryd.func7 rfl (n := 113) rfl rfl ?_
    refine CC.seq ?_
    refine CC.region ?_
    refine LL.box _ rfl rfl rfl rfl rfl ?_
    intro W2 g3 eg3 r4 z5 b1
    replace q := q.trans (b1.mono q.size)
    refine LL.val (R.assign rfl rfl) rfl rfl rfl ?_
    refine LL.nilS ?_
    refine CC.seq ?_
    refine CC.seq ?_
    refine CC.region ?_
    refine LL.val (R.move rfl rfl) rfl rfl rfl ?_
    refine LL.val (R.len rfl rfl rfl rfl) rfl rfl rfl ?_
    refine LL.val (R.gtT rfl rfl rfl (by omega)) rfl rfl rfl ?_
    refine LL.nilS ?_
    refine CC.yes rfl ?_
    refine CC.seq ?_
    refine CC.region ?_
    refine LL.call (R.call rfl rfl rfl) rfl rfl rfl (works_any _ (hsF _ q)) ?_
    rintro e W7 ⟨rfl, b6⟩
    refine ⟨_, rfl, ?_⟩
    have zb6 := b6.size
    replace r4 := r4.up b6
    replace b1 := b1.trans (b6.mono b1.size)
    replace q := q.trans (b6.mono q.size)
    refine LL.val (R.assign rfl rfl) rfl rfl rfl ?_
    refine LL.nilS ?_
    refine CC.ret ?_
    refine EE.thenR ?_
    refine EE.ret _ rfl rfl ?_
    exact ⟨rfl, q⟩
  have hlen : l.length ≤ 1048576 := by omega
  have hol := outZ_len ws
  have hlo : (outZ ws).length ≤ 1048576 := by omega
  have h10 : (List.replicate 10 (0 : Int)).length = 10 := List.length_replicate
  by_cases h : vL l
  · have hwl := wrdZ_len h.1
    have hWd : ∀ w', Below w.heap.size w w' → Calls Tryd.prog 25 #[.slice a N cap] w' fun e w'' => e = .returned (wdV (wrdZ l)) ∧ Below w'.heap.size w' w'' := fun w' b => rwords_T l _ w' (hvF _ b) h
    by_cases hmw : mapW ws
    · have hwo : (wrdZ (outZ ws)).length = 10 := wrdZ_len hmw.1.1
      have he := hmw.2
      refine X.fn Tryd.func7 rfl (n := 113) rfl rfl ?_
      refine CC.seq ?_
      refine CC.region ?_
      refine LL.box _ rfl rfl rfl rfl rfl ?_
      intro Wa2 ga3 ega3 ra4 za5 ba1
      replace q := q.trans (ba1.mono q.size)
      refine LL.val (R.assign rfl rfl) rfl rfl rfl ?_
      refine LL.nilS ?_
      refine CC.seq ?_
      refine CC.seq ?_
      refine CC.region ?_
      refine LL.val (R.move rfl rfl) rfl rfl rfl ?_
      refine LL.val (R.len rfl rfl rfl rfl) rfl rfl rfl ?_
      refine LL.val (R.gtF rfl rfl rfl (by omega)) rfl rfl rfl ?_
      refine LL.nilS ?_
      refine CC.no rfl ?_
      refine CC.skip ?_
      refine EE.thenN ?_
      refine CC.seq ?_
      refine CC.region ?_
      refine LL.val (R.move rfl rfl) rfl rfl rfl ?_
      refine LL.call (R.call rfl rfl rfl) rfl rfl rfl (words_T l _ _ (hsF _ q) (hvF _ q) h) ?_
      rintro e Wa7 ⟨rfl, ba6⟩
      refine ⟨_, rfl, ?_⟩
      have zba6 := ba6.size
      replace ra4 := ra4.up ba6
      replace ba1 := ba1.trans (ba6.mono ba1.size)
      replace q := q.trans (ba6.mono q.size)
      refine LL.val (R.move rfl rfl) rfl rfl rfl ?_
      refine LL.val (R.extract rfl rfl rfl) rfl rfl rfl ?_
      refine LL.val (R.extract rfl rfl rfl) rfl rfl rfl ?_
      have la9 := ra4.lt
      refine LL.alloc (intsZ .u64 (List.replicate 10 0)) rfl rfl rfl rfl rfl ?_
      intro Wa11 ga12 ega12 ra13 za14 ba10
      replace ba6 := ba6.trans (ba10.mono ba6.size)
      replace ra4 := ra4.up ba10
      replace ba1 := ba1.trans (ba10.mono ba1.size)
      replace q := q.trans (ba10.mono q.size)
      refine LL.storeAZ rfl rfl rfl rfl (by first | assumption | exact List.length_replicate | exact plL_len _ | exact plOf_len _ | simp) ra13 (by first | (rw [List.length_map]; exact (by first | assumption | exact List.length_replicate | exact plL_len _ | exact plOf_len _ | simp)) | simp) rfl rfl ?_
      intro Wa16 ra17 ba15 za18
      have hlba15 := ra13.lt
      clear ra13
      replace ba10 := ba10.grown ba15 ba10.size (by rintro k ⟨⟩; omega)
      replace ba6 := ba6.grown ba15 ba6.size (by rintro k ⟨⟩; omega)
      replace ra4 := ra4.gr ba15 (by have := ra4.lt; omega)
      replace ba1 := ba1.grown ba15 ba1.size (by rintro k ⟨⟩; omega)
      replace q := q.grown ba15 q.size (by rintro k ⟨⟩; omega)
      have ra13 := ra17
      clear ra17
      refine LL.val (R.assign rfl rfl) rfl rfl rfl ?_
      refine LL.nilS ?_
      refine CC.seq ?_
      refine CC.region ?_
      refine LL.val (R.move rfl rfl) rfl rfl rfl ?_
      refine LL.call (R.call rfl rfl rfl) rfl rfl rfl (rof_T l _ _ (hvF _ q) hlen h) ?_
      rintro e Wa20 ⟨rfl, ba19⟩
      refine ⟨_, rfl, ?_⟩
      have zba19 := ba19.size
      replace ba10 := ba10.trans (ba19.mono ba10.size)
      replace ba6 := ba6.trans (ba19.mono ba6.size)
      replace ra4 := ra4.up ba19
      replace ba1 := ba1.trans (ba19.mono ba1.size)
      replace q := q.trans (ba19.mono q.size)
      replace ra13 := ra13.up ba19
      refine LL.val (R.move rfl rfl) rfl rfl rfl ?_
      refine LL.val (R.extract rfl rfl rfl) rfl rfl rfl ?_
      refine LL.val (R.extract rfl rfl rfl) rfl rfl rfl ?_
      have la22 := ra4.lt
      have la23 := ra13.lt
      refine LL.alloc (intsZ .i64 (List.replicate 128 0)) rfl rfl rfl rfl rfl ?_
      intro Wa25 ga26 ega26 ra27 za28 ba24
      replace ba19 := ba19.trans (ba24.mono ba19.size)
      replace ba10 := ba10.trans (ba24.mono ba10.size)
      replace ba6 := ba6.trans (ba24.mono ba6.size)
      replace ra4 := ra4.up ba24
      replace ba1 := ba1.trans (ba24.mono ba1.size)
      replace q := q.trans (ba24.mono q.size)
      replace ra13 := ra13.up ba24
      refine LL.storeAZ rfl rfl rfl rfl (by first | assumption | exact List.length_replicate | exact plL_len _ | exact plOf_len _ | simp) ra27 (by first | (rw [List.length_map]; exact (by first | assumption | exact List.length_replicate | exact plL_len _ | exact plOf_len _ | simp)) | simp) rfl rfl ?_
      intro Wa30 ra31 ba29 za32
      have hlba29 := ra27.lt
      clear ra27
      replace ba24 := ba24.grown ba29 ba24.size (by rintro k ⟨⟩; omega)
      replace ba19 := ba19.grown ba29 ba19.size (by rintro k ⟨⟩; omega)
      replace ba10 := ba10.grown ba29 ba10.size (by rintro k ⟨⟩; omega)
      replace ba6 := ba6.grown ba29 ba6.size (by rintro k ⟨⟩; omega)
      replace ra4 := ra4.gr ba29 (by have := ra4.lt; omega)
      replace ba1 := ba1.grown ba29 ba1.size (by rintro k ⟨⟩; omega)
      replace q := q.grown ba29 q.size (by rintro k ⟨⟩; omega)
      replace ra13 := ra13.gr ba29 (by have := ra13.lt; omega)
      have ra27 := ra31
      clear ra31
      refine LL.val (R.assign rfl rfl) rfl rfl rfl ?_
      refine LL.nilS ?_
      refine CC.seq ?_
      refine CC.seq ?_
      refine CC.grow (by kernel_rfl) (by kernel_rfl) ?_
      refine GG.val (fun w' b' => R.move rfl rfl) rfl rfl ?_
      refine GG.val (fun w' b' => R.move rfl rfl) rfl rfl ?_
      refine GG.call (fun w' => (R.call rfl rfl rfl)) rfl rfl (fun w' b' => (num_any _ w').mono fun e W' h => ⟨h.1, h.2 ▸ b'⟩) ?_
      refine GG.val (fun w' b' => R.eqT rfl rfl rfl (by omega)) rfl rfl ?_
      refine GG.val (fun w' b' => R.neBool rfl rfl rfl rfl rfl) rfl rfl ?_
      refine GG.val (fun w' b' => R.move rfl rfl) rfl rfl ?_
      refine GG.val (fun w' b' => R.move rfl rfl) rfl rfl ?_
      refine GG.val (fun w' b' => R.move rfl rfl) rfl rfl ?_
      refine GG.val (fun w' b' => R.loadZ rfl rfl (ra13.up b') rfl rfl (by first | assumption | exact List.length_replicate | exact plL_len _ | exact plOf_len _ | simp)) rfl rfl ?_
      refine GG.val (fun w' b' => R.move rfl rfl) rfl rfl ?_
      refine GG.call (fun w' => (R.call rfl rfl rfl)) rfl rfl (fun w' b' => (hWd w' (q.trans (b'.mono q.size))).mono fun e W' h => ⟨h.1, b'.trans (h.2.mono b'.size)⟩) ?_
      refine GG.val (fun w' b' => R.neZT rfl rfl rfl Tryd.underlying53 Tryd.underlying52 rfl (by decide) rfl (by kernel_rfl) (by assumption) (by assumption) (by first | assumption | rfl)) rfl rfl ?_
      refine GG.val (fun w' b' => R.pick rfl rfl rfl) rfl rfl ?_
      refine GG.val (fun w' b' => R.pick rfl rfl rfl) rfl rfl ?_
      refine GG.val (fun w' b' => R.move rfl rfl) rfl rfl ?_
      refine GG.val (fun w' b' => R.move rfl rfl) rfl rfl ?_
      refine GG.val (fun w' b' => R.not rfl rfl) rfl rfl ?_
      refine GG.val (fun w' b' => R.move rfl rfl) rfl rfl ?_
      refine GG.skip rfl rfl ?_
      refine GG.skip rfl rfl ?_
      refine GG.skip rfl rfl ?_
      refine GG.skip rfl rfl ?_
      refine GG.skip rfl rfl ?_
      refine GG.skip rfl rfl ?_
      refine GG.skip rfl rfl ?_
      refine GG.skip rfl rfl ?_
      refine GG.val (fun w' b' => R.pick rfl rfl rfl) rfl rfl ?_
      refine GG.val (fun w' b' => R.pick rfl rfl rfl) rfl rfl ?_
      refine GG.nilQ (fun Wa37 ba36 => ?_)
      have zba36 := ba36.size
      replace ba24 := ba24.trans (ba36.mono ba24.size)
      replace ba19 := ba19.trans (ba36.mono ba19.size)
      replace ba10 := ba10.trans (ba36.mono ba10.size)
      replace ba6 := ba6.trans (ba36.mono ba6.size)
      replace ra4 := ra4.up ba36
      replace ba1 := ba1.trans (ba36.mono ba1.size)
      replace q := q.trans (ba36.mono q.size)
      replace ra13 := ra13.up ba36
      replace ra27 := ra27.up ba36
      refine EE.thenN ?_
      refine CC.no rfl ?_
      refine CC.skip ?_
      refine EE.thenN ?_
      refine CC.seq ?_
      refine CC.seq ?_
      refine CC.region ?_
      refine LL.val (R.move rfl rfl) rfl rfl rfl ?_
      refine LL.nilS ?_
      refine CC.yes rfl ?_
      refine CC.seq ?_
      refine CC.region ?_
      refine LL.val (R.loadZ rfl rfl ra13 rfl rfl (by first | assumption | exact List.length_replicate | exact plL_len _ | exact plOf_len _ | simp)) rfl rfl rfl ?_
      refine LL.call (R.call rfl rfl rfl) rfl rfl rfl (ofl_T l _ (hsF _ q) h) ?_
      rintro e Wa39 ⟨va41, rfl, ha40, ba38⟩
      refine ⟨_, rfl, ?_⟩
      have zba38 := ba38.size
      replace ba36 := ba36.trans (ba38.mono ba36.size)
      replace ba24 := ba24.trans (ba38.mono ba24.size)
      replace ba19 := ba19.trans (ba38.mono ba19.size)
      replace ba10 := ba10.trans (ba38.mono ba10.size)
      replace ba6 := ba6.trans (ba38.mono ba6.size)
      replace ra4 := ra4.up ba38
      replace ba1 := ba1.trans (ba38.mono ba1.size)
      replace q := q.trans (ba38.mono q.size)
      replace ra13 := ra13.up ba38
      replace ra27 := ra27.up ba38
      refine LL.val (R.move rfl rfl) rfl rfl rfl ?_
      refine LL.val (R.extract rfl rfl rfl) rfl rfl rfl ?_
      refine LL.val (R.extract rfl rfl rfl) rfl rfl rfl ?_
      refine LL.val (R.assign rfl rfl) rfl rfl rfl ?_
      refine LL.val (R.assign rfl rfl) rfl rfl rfl ?_
      refine LL.nilS ?_
      refine CC.seq ?_
      refine CC.region ?_
      refine LL.val (R.move rfl rfl) rfl rfl rfl ?_
      refine LL.call (R.call rfl rfl rfl) rfl rfl rfl (num_any _ _) ?_
      rintro e W' ⟨rfl, rfl⟩
      refine ⟨_, rfl, ?_⟩
      refine LL.val (R.neF rfl rfl rfl (by omega)) rfl rfl rfl ?_
      refine LL.val (R.move rfl rfl) rfl rfl rfl ?_
      refine LL.val (R.move rfl rfl) rfl rfl rfl ?_
      refine LL.val (R.move rfl rfl) rfl rfl rfl ?_
      refine LL.call (R.call rfl rfl rfl) rfl rfl rfl (slist_T _ _ l _ (by first | assumption | omega) (hvF _ q) hlen) ?_
      rintro e Wa44 ⟨rfl, ba43⟩
      refine ⟨_, rfl, ?_⟩
      have zba43 := ba43.size
      replace ha40 := ha40.up ba43
      replace ba38 := ba38.trans (ba43.mono ba38.size)
      replace ba36 := ba36.trans (ba43.mono ba36.size)
      replace ba24 := ba24.trans (ba43.mono ba24.size)
      replace ba19 := ba19.trans (ba43.mono ba19.size)
      replace ba10 := ba10.trans (ba43.mono ba10.size)
      replace ba6 := ba6.trans (ba43.mono ba6.size)
      replace ra4 := ra4.up ba43
      replace ba1 := ba1.trans (ba43.mono ba1.size)
      replace q := q.trans (ba43.mono q.size)
      replace ra13 := ra13.up ba43
      replace ra27 := ra27.up ba43
      refine LL.val (R.not rfl rfl) rfl rfl rfl ?_
      refine LL.val (R.pick rfl rfl rfl) rfl rfl rfl ?_
      refine LL.nilS ?_
      refine CC.no rfl ?_
      refine CC.skip ?_
      refine EE.thenN ?_
      refine CC.seq ?_
      refine CC.region ?_
      refine LL.val (R.loadZ rfl rfl ra4 rfl rfl (by first | assumption | exact List.length_replicate | exact plL_len _ | exact plOf_len _ | simp)) rfl rfl rfl ?_
      refine LL.call (R.call rfl rfl rfl) rfl rfl rfl (ofw_T ws _ (hsF _ q) hl hw hmw) ?_
      rintro e Wa47 ⟨va49, rfl, ha48, ba46⟩
      refine ⟨_, rfl, ?_⟩
      have zba46 := ba46.size
      replace ba43 := ba43.trans (ba46.mono ba43.size)
      replace ha40 := ha40.up ba46
      replace ba38 := ba38.trans (ba46.mono ba38.size)
      replace ba36 := ba36.trans (ba46.mono ba36.size)
      replace ba24 := ba24.trans (ba46.mono ba24.size)
      replace ba19 := ba19.trans (ba46.mono ba19.size)
      replace ba10 := ba10.trans (ba46.mono ba10.size)
      replace ba6 := ba6.trans (ba46.mono ba6.size)
      replace ra4 := ra4.up ba46
      replace ba1 := ba1.trans (ba46.mono ba1.size)
      replace q := q.trans (ba46.mono q.size)
      replace ra13 := ra13.up ba46
      replace ra27 := ra27.up ba46
      refine LL.val (R.move rfl rfl) rfl rfl rfl ?_
      refine LL.val (R.extract rfl rfl rfl) rfl rfl rfl ?_
      refine LL.val (R.extract rfl rfl rfl) rfl rfl rfl ?_
      refine LL.val (R.assign rfl rfl) rfl rfl rfl ?_
      refine LL.val (R.assign rfl rfl) rfl rfl rfl ?_
      refine LL.nilS ?_
      refine CC.seq ?_
      refine CC.region ?_
      refine LL.val (R.loadZ rfl rfl ra4 rfl rfl (by first | assumption | exact List.length_replicate | exact plL_len _ | exact plOf_len _ | simp)) rfl rfl rfl ?_
      refine LL.call (R.call rfl rfl rfl) rfl rfl rfl (rdw_T ws _ hl hw hmw) ?_
      rintro e Wa52 ⟨va54, rfl, ha53, ba51⟩
      refine ⟨_, rfl, ?_⟩
      have zba51 := ba51.size
      replace ha48 := ha48.up ba51
      replace ba46 := ba46.trans (ba51.mono ba46.size)
      replace ba43 := ba43.trans (ba51.mono ba43.size)
      replace ha40 := ha40.up ba51
      replace ba38 := ba38.trans (ba51.mono ba38.size)
      replace ba36 := ba36.trans (ba51.mono ba36.size)
      replace ba24 := ba24.trans (ba51.mono ba24.size)
      replace ba19 := ba19.trans (ba51.mono ba19.size)
      replace ba10 := ba10.trans (ba51.mono ba10.size)
      replace ba6 := ba6.trans (ba51.mono ba6.size)
      replace ra4 := ra4.up ba51
      replace ba1 := ba1.trans (ba51.mono ba1.size)
      replace q := q.trans (ba51.mono q.size)
      replace ra13 := ra13.up ba51
      replace ra27 := ra27.up ba51
      refine LL.val (R.move rfl rfl) rfl rfl rfl ?_
      refine LL.val (R.extract rfl rfl rfl) rfl rfl rfl ?_
      refine LL.val (R.extract rfl rfl rfl) rfl rfl rfl ?_
      refine LL.val (R.assign rfl rfl) rfl rfl rfl ?_
      refine LL.val (R.assign rfl rfl) rfl rfl rfl ?_
      refine LL.nilS ?_
      refine CC.seq ?_
      refine CC.seq ?_
      refine CC.region ?_
      refine LL.val (R.move rfl rfl) rfl rfl rfl ?_
      refine LL.val (R.move rfl rfl) rfl rfl rfl ?_
      refine LL.call (R.call rfl rfl rfl) rfl rfl rfl (slist_T _ _ (outZ ws) _ (by first | assumption | omega) (by first | assumption | omega) hlo) ?_
      rintro e Wa57 ⟨rfl, ba56⟩
      refine ⟨_, rfl, ?_⟩
      have zba56 := ba56.size
      replace ha53 := ha53.up ba56
      replace ba51 := ba51.trans (ba56.mono ba51.size)
      replace ha48 := ha48.up ba56
      replace ba46 := ba46.trans (ba56.mono ba46.size)
      replace ba43 := ba43.trans (ba56.mono ba43.size)
      replace ha40 := ha40.up ba56
      replace ba38 := ba38.trans (ba56.mono ba38.size)
      replace ba36 := ba36.trans (ba56.mono ba36.size)
      replace ba24 := ba24.trans (ba56.mono ba24.size)
      replace ba19 := ba19.trans (ba56.mono ba19.size)
      replace ba10 := ba10.trans (ba56.mono ba10.size)
      replace ba6 := ba6.trans (ba56.mono ba6.size)
      replace ra4 := ra4.up ba56
      replace ba1 := ba1.trans (ba56.mono ba1.size)
      replace q := q.trans (ba56.mono q.size)
      replace ra13 := ra13.up ba56
      replace ra27 := ra27.up ba56
      refine LL.val (R.not rfl rfl) rfl rfl rfl ?_
      refine LL.val (R.move rfl rfl) rfl rfl rfl ?_
      refine LL.val (R.move rfl rfl) rfl rfl rfl ?_
      refine LL.call (R.call rfl rfl rfl) rfl rfl rfl (num_any _ _) ?_
      rintro e W' ⟨rfl, rfl⟩
      refine ⟨_, rfl, ?_⟩
      refine LL.val (R.move rfl rfl) rfl rfl rfl ?_
      refine LL.val (R.neF rfl rfl rfl (by omega)) rfl rfl rfl ?_
      refine LL.val (R.pick rfl rfl rfl) rfl rfl rfl ?_
      refine LL.nilS ?_
      refine CC.no rfl ?_
      refine CC.skip ?_
      refine EE.thenN ?_
      refine CC.seq ?_
      refine CC.seq ?_
      refine CC.region ?_
      refine LL.val (R.move rfl rfl) rfl rfl rfl ?_
      refine LL.val (R.neF rfl rfl rfl (by omega)) rfl rfl rfl ?_
      refine LL.nilS ?_
      refine CC.no rfl ?_
      refine CC.skip ?_
      refine EE.thenN ?_
      refine CC.seq ?_
      refine CC.region ?_
      refine LL.val (R.move rfl rfl) rfl rfl rfl ?_
      refine LL.call (R.call rfl rfl rfl) rfl rfl rfl (words_T (outZ ws) _ _ (hsF _ q) (by first | assumption | omega) hmw.1) ?_
      rintro e Wa60 ⟨rfl, ba59⟩
      refine ⟨_, rfl, ?_⟩
      have zba59 := ba59.size
      replace ba56 := ba56.trans (ba59.mono ba56.size)
      replace ha53 := ha53.up ba59
      replace ba51 := ba51.trans (ba59.mono ba51.size)
      replace ha48 := ha48.up ba59
      replace ba46 := ba46.trans (ba59.mono ba46.size)
      replace ba43 := ba43.trans (ba59.mono ba43.size)
      replace ha40 := ha40.up ba59
      replace ba38 := ba38.trans (ba59.mono ba38.size)
      replace ba36 := ba36.trans (ba59.mono ba36.size)
      replace ba24 := ba24.trans (ba59.mono ba24.size)
      replace ba19 := ba19.trans (ba59.mono ba19.size)
      replace ba10 := ba10.trans (ba59.mono ba10.size)
      replace ba6 := ba6.trans (ba59.mono ba6.size)
      replace ra4 := ra4.up ba59
      replace ba1 := ba1.trans (ba59.mono ba1.size)
      replace q := q.trans (ba59.mono q.size)
      replace ra13 := ra13.up ba59
      replace ra27 := ra27.up ba59
      refine LL.val (R.move rfl rfl) rfl rfl rfl ?_
      refine LL.val (R.extract rfl rfl rfl) rfl rfl rfl ?_
      refine LL.val (R.extract rfl rfl rfl) rfl rfl rfl ?_
      have la62 := ra4.lt
      have la63 := ra13.lt
      have la64 := ra27.lt
      refine LL.alloc (intsZ .u64 (List.replicate 10 0)) rfl rfl rfl rfl rfl ?_
      intro Wa66 ga67 ega67 ra68 za69 ba65
      replace ba59 := ba59.trans (ba65.mono ba59.size)
      replace ba56 := ba56.trans (ba65.mono ba56.size)
      replace ha53 := ha53.up ba65
      replace ba51 := ba51.trans (ba65.mono ba51.size)
      replace ha48 := ha48.up ba65
      replace ba46 := ba46.trans (ba65.mono ba46.size)
      replace ba43 := ba43.trans (ba65.mono ba43.size)
      replace ha40 := ha40.up ba65
      replace ba38 := ba38.trans (ba65.mono ba38.size)
      replace ba36 := ba36.trans (ba65.mono ba36.size)
      replace ba24 := ba24.trans (ba65.mono ba24.size)
      replace ba19 := ba19.trans (ba65.mono ba19.size)
      replace ba10 := ba10.trans (ba65.mono ba10.size)
      replace ba6 := ba6.trans (ba65.mono ba6.size)
      replace ra4 := ra4.up ba65
      replace ba1 := ba1.trans (ba65.mono ba1.size)
      replace q := q.trans (ba65.mono q.size)
      replace ra13 := ra13.up ba65
      replace ra27 := ra27.up ba65
      refine LL.storeAZ rfl rfl rfl rfl (by first | assumption | exact List.length_replicate | exact plL_len _ | exact plOf_len _ | simp) ra68 (by first | (rw [List.length_map]; exact (by first | assumption | exact List.length_replicate | exact plL_len _ | exact plOf_len _ | simp)) | simp) rfl rfl ?_
      intro Wa71 ra72 ba70 za73
      have hlba70 := ra68.lt
      clear ra68
      replace ba65 := ba65.grown ba70 ba65.size (by rintro k ⟨⟩; omega)
      replace ba59 := ba59.grown ba70 ba59.size (by rintro k ⟨⟩; omega)
      replace ba56 := ba56.grown ba70 ba56.size (by rintro k ⟨⟩; omega)
      replace ba51 := ba51.grown ba70 ba51.size (by rintro k ⟨⟩; omega)
      replace ba46 := ba46.grown ba70 ba46.size (by rintro k ⟨⟩; omega)
      replace ba43 := ba43.grown ba70 ba43.size (by rintro k ⟨⟩; omega)
      replace ba38 := ba38.grown ba70 ba38.size (by rintro k ⟨⟩; omega)
      replace ba36 := ba36.grown ba70 ba36.size (by rintro k ⟨⟩; omega)
      replace ba24 := ba24.grown ba70 ba24.size (by rintro k ⟨⟩; omega)
      replace ba19 := ba19.grown ba70 ba19.size (by rintro k ⟨⟩; omega)
      replace ba10 := ba10.grown ba70 ba10.size (by rintro k ⟨⟩; omega)
      replace ba6 := ba6.grown ba70 ba6.size (by rintro k ⟨⟩; omega)
      replace ra4 := ra4.gr ba70 (by have := ra4.lt; omega)
      replace ba1 := ba1.grown ba70 ba1.size (by rintro k ⟨⟩; omega)
      replace q := q.grown ba70 q.size (by rintro k ⟨⟩; omega)
      replace ra13 := ra13.gr ba70 (by have := ra13.lt; omega)
      replace ra27 := ra27.gr ba70 (by have := ra27.lt; omega)
      have ra68 := ra72
      clear ra72
      refine LL.val (R.assign rfl rfl) rfl rfl rfl ?_
      refine LL.nilS ?_
      refine CC.seq ?_
      refine CC.region ?_
      refine LL.val (R.move rfl rfl) rfl rfl rfl ?_
      refine LL.call (R.call rfl rfl rfl) rfl rfl rfl (num_any _ _) ?_
      rintro e W' ⟨rfl, rfl⟩
      refine ⟨_, rfl, ?_⟩
      refine LL.val (R.eqT rfl rfl rfl (by omega)) rfl rfl rfl ?_
      refine LL.val (R.move rfl rfl) rfl rfl rfl ?_
      refine LL.val (R.loadZ rfl rfl ra68 rfl rfl (by first | assumption | exact List.length_replicate | exact plL_len _ | exact plOf_len _ | simp)) rfl rfl rfl ?_
      refine LL.val (R.loadZ rfl rfl ra4 rfl rfl (by first | assumption | exact List.length_replicate | exact plL_len _ | exact plOf_len _ | simp)) rfl rfl rfl ?_
      refine LL.val (R.eqZT rfl rfl rfl Tryd.underlying53 Tryd.underlying52 rfl (by decide) rfl (by kernel_rfl) (by assumption) (by assumption) (by first | assumption | rfl)) rfl rfl rfl ?_
      refine LL.val (R.pick rfl rfl rfl) rfl rfl rfl ?_
      refine LL.val (R.move rfl rfl) rfl rfl rfl ?_
      refine LL.call (R.call rfl rfl rfl) rfl rfl rfl (works_any _ (hsF _ q)) ?_
      rintro e Wa75 ⟨rfl, ba74⟩
      refine ⟨_, rfl, ?_⟩
      have zba74 := ba74.size
      replace ba65 := ba65.trans (ba74.mono ba65.size)
      replace ba59 := ba59.trans (ba74.mono ba59.size)
      replace ba56 := ba56.trans (ba74.mono ba56.size)
      replace ba51 := ba51.trans (ba74.mono ba51.size)
      replace ba46 := ba46.trans (ba74.mono ba46.size)
      replace ba43 := ba43.trans (ba74.mono ba43.size)
      replace ba38 := ba38.trans (ba74.mono ba38.size)
      replace ba36 := ba36.trans (ba74.mono ba36.size)
      replace ba24 := ba24.trans (ba74.mono ba24.size)
      replace ba19 := ba19.trans (ba74.mono ba19.size)
      replace ba10 := ba10.trans (ba74.mono ba10.size)
      replace ba6 := ba6.trans (ba74.mono ba6.size)
      replace ra4 := ra4.up ba74
      replace ba1 := ba1.trans (ba74.mono ba1.size)
      replace q := q.trans (ba74.mono q.size)
      replace ra13 := ra13.up ba74
      replace ra27 := ra27.up ba74
      replace ra68 := ra68.up ba74
      refine LL.val (R.pick rfl rfl rfl) rfl rfl rfl ?_
      refine LL.val (R.assign rfl rfl) rfl rfl rfl ?_
      refine LL.nilS ?_
      refine CC.ret ?_
      refine EE.ret _ rfl rfl ?_
      exact ⟨rfl, q⟩
    · refine X.fn Tryd.func7 rfl (n := 113) rfl rfl ?_
      refine CC.seq ?_
      refine CC.region ?_
      refine LL.box _ rfl rfl rfl rfl rfl ?_
      intro Wb2 gb3 egb3 rb4 zb5 bb1
      replace q := q.trans (bb1.mono q.size)
      refine LL.val (R.assign rfl rfl) rfl rfl rfl ?_
      refine LL.nilS ?_
      refine CC.seq ?_
      refine CC.seq ?_
      refine CC.region ?_
      refine LL.val (R.move rfl rfl) rfl rfl rfl ?_
      refine LL.val (R.len rfl rfl rfl rfl) rfl rfl rfl ?_
      refine LL.val (R.gtF rfl rfl rfl (by omega)) rfl rfl rfl ?_
      refine LL.nilS ?_
      refine CC.no rfl ?_
      refine CC.skip ?_
      refine EE.thenN ?_
      refine CC.seq ?_
      refine CC.region ?_
      refine LL.val (R.move rfl rfl) rfl rfl rfl ?_
      refine LL.call (R.call rfl rfl rfl) rfl rfl rfl (words_T l _ _ (hsF _ q) (hvF _ q) h) ?_
      rintro e Wb7 ⟨rfl, bb6⟩
      refine ⟨_, rfl, ?_⟩
      have zbb6 := bb6.size
      replace rb4 := rb4.up bb6
      replace bb1 := bb1.trans (bb6.mono bb1.size)
      replace q := q.trans (bb6.mono q.size)
      refine LL.val (R.move rfl rfl) rfl rfl rfl ?_
      refine LL.val (R.extract rfl rfl rfl) rfl rfl rfl ?_
      refine LL.val (R.extract rfl rfl rfl) rfl rfl rfl ?_
      have lb9 := rb4.lt
      refine LL.alloc (intsZ .u64 (List.replicate 10 0)) rfl rfl rfl rfl rfl ?_
      intro Wb11 gb12 egb12 rb13 zb14 bb10
      replace bb6 := bb6.trans (bb10.mono bb6.size)
      replace rb4 := rb4.up bb10
      replace bb1 := bb1.trans (bb10.mono bb1.size)
      replace q := q.trans (bb10.mono q.size)
      refine LL.storeAZ rfl rfl rfl rfl (by first | assumption | exact List.length_replicate | exact plL_len _ | exact plOf_len _ | simp) rb13 (by first | (rw [List.length_map]; exact (by first | assumption | exact List.length_replicate | exact plL_len _ | exact plOf_len _ | simp)) | simp) rfl rfl ?_
      intro Wb16 rb17 bb15 zb18
      have hlbb15 := rb13.lt
      clear rb13
      replace bb10 := bb10.grown bb15 bb10.size (by rintro k ⟨⟩; omega)
      replace bb6 := bb6.grown bb15 bb6.size (by rintro k ⟨⟩; omega)
      replace rb4 := rb4.gr bb15 (by have := rb4.lt; omega)
      replace bb1 := bb1.grown bb15 bb1.size (by rintro k ⟨⟩; omega)
      replace q := q.grown bb15 q.size (by rintro k ⟨⟩; omega)
      have rb13 := rb17
      clear rb17
      refine LL.val (R.assign rfl rfl) rfl rfl rfl ?_
      refine LL.nilS ?_
      refine CC.seq ?_
      refine CC.region ?_
      refine LL.val (R.move rfl rfl) rfl rfl rfl ?_
      refine LL.call (R.call rfl rfl rfl) rfl rfl rfl (rof_T l _ _ (hvF _ q) hlen h) ?_
      rintro e Wb20 ⟨rfl, bb19⟩
      refine ⟨_, rfl, ?_⟩
      have zbb19 := bb19.size
      replace bb10 := bb10.trans (bb19.mono bb10.size)
      replace bb6 := bb6.trans (bb19.mono bb6.size)
      replace rb4 := rb4.up bb19
      replace bb1 := bb1.trans (bb19.mono bb1.size)
      replace q := q.trans (bb19.mono q.size)
      replace rb13 := rb13.up bb19
      refine LL.val (R.move rfl rfl) rfl rfl rfl ?_
      refine LL.val (R.extract rfl rfl rfl) rfl rfl rfl ?_
      refine LL.val (R.extract rfl rfl rfl) rfl rfl rfl ?_
      have lb22 := rb4.lt
      have lb23 := rb13.lt
      refine LL.alloc (intsZ .i64 (List.replicate 128 0)) rfl rfl rfl rfl rfl ?_
      intro Wb25 gb26 egb26 rb27 zb28 bb24
      replace bb19 := bb19.trans (bb24.mono bb19.size)
      replace bb10 := bb10.trans (bb24.mono bb10.size)
      replace bb6 := bb6.trans (bb24.mono bb6.size)
      replace rb4 := rb4.up bb24
      replace bb1 := bb1.trans (bb24.mono bb1.size)
      replace q := q.trans (bb24.mono q.size)
      replace rb13 := rb13.up bb24
      refine LL.storeAZ rfl rfl rfl rfl (by first | assumption | exact List.length_replicate | exact plL_len _ | exact plOf_len _ | simp) rb27 (by first | (rw [List.length_map]; exact (by first | assumption | exact List.length_replicate | exact plL_len _ | exact plOf_len _ | simp)) | simp) rfl rfl ?_
      intro Wb30 rb31 bb29 zb32
      have hlbb29 := rb27.lt
      clear rb27
      replace bb24 := bb24.grown bb29 bb24.size (by rintro k ⟨⟩; omega)
      replace bb19 := bb19.grown bb29 bb19.size (by rintro k ⟨⟩; omega)
      replace bb10 := bb10.grown bb29 bb10.size (by rintro k ⟨⟩; omega)
      replace bb6 := bb6.grown bb29 bb6.size (by rintro k ⟨⟩; omega)
      replace rb4 := rb4.gr bb29 (by have := rb4.lt; omega)
      replace bb1 := bb1.grown bb29 bb1.size (by rintro k ⟨⟩; omega)
      replace q := q.grown bb29 q.size (by rintro k ⟨⟩; omega)
      replace rb13 := rb13.gr bb29 (by have := rb13.lt; omega)
      have rb27 := rb31
      clear rb31
      refine LL.val (R.assign rfl rfl) rfl rfl rfl ?_
      refine LL.nilS ?_
      refine CC.seq ?_
      refine CC.seq ?_
      refine CC.grow (by kernel_rfl) (by kernel_rfl) ?_
      refine GG.val (fun w' b' => R.move rfl rfl) rfl rfl ?_
      refine GG.val (fun w' b' => R.move rfl rfl) rfl rfl ?_
      refine GG.call (fun w' => (R.call rfl rfl rfl)) rfl rfl (fun w' b' => (num_any _ w').mono fun e W' h => ⟨h.1, h.2 ▸ b'⟩) ?_
      refine GG.val (fun w' b' => R.eqT rfl rfl rfl (by omega)) rfl rfl ?_
      refine GG.val (fun w' b' => R.neBool rfl rfl rfl rfl rfl) rfl rfl ?_
      refine GG.val (fun w' b' => R.move rfl rfl) rfl rfl ?_
      refine GG.val (fun w' b' => R.move rfl rfl) rfl rfl ?_
      refine GG.val (fun w' b' => R.move rfl rfl) rfl rfl ?_
      refine GG.val (fun w' b' => R.loadZ rfl rfl (rb13.up b') rfl rfl (by first | assumption | exact List.length_replicate | exact plL_len _ | exact plOf_len _ | simp)) rfl rfl ?_
      refine GG.val (fun w' b' => R.move rfl rfl) rfl rfl ?_
      refine GG.call (fun w' => (R.call rfl rfl rfl)) rfl rfl (fun w' b' => (hWd w' (q.trans (b'.mono q.size))).mono fun e W' h => ⟨h.1, b'.trans (h.2.mono b'.size)⟩) ?_
      refine GG.val (fun w' b' => R.neZT rfl rfl rfl Tryd.underlying53 Tryd.underlying52 rfl (by decide) rfl (by kernel_rfl) (by assumption) (by assumption) (by first | assumption | rfl)) rfl rfl ?_
      refine GG.val (fun w' b' => R.pick rfl rfl rfl) rfl rfl ?_
      refine GG.val (fun w' b' => R.pick rfl rfl rfl) rfl rfl ?_
      refine GG.val (fun w' b' => R.move rfl rfl) rfl rfl ?_
      refine GG.val (fun w' b' => R.move rfl rfl) rfl rfl ?_
      refine GG.val (fun w' b' => R.not rfl rfl) rfl rfl ?_
      refine GG.val (fun w' b' => R.move rfl rfl) rfl rfl ?_
      refine GG.skip rfl rfl ?_
      refine GG.skip rfl rfl ?_
      refine GG.skip rfl rfl ?_
      refine GG.skip rfl rfl ?_
      refine GG.skip rfl rfl ?_
      refine GG.skip rfl rfl ?_
      refine GG.skip rfl rfl ?_
      refine GG.skip rfl rfl ?_
      refine GG.val (fun w' b' => R.pick rfl rfl rfl) rfl rfl ?_
      refine GG.val (fun w' b' => R.pick rfl rfl rfl) rfl rfl ?_
      refine GG.nilQ (fun Wb37 bb36 => ?_)
      have zbb36 := bb36.size
      replace bb24 := bb24.trans (bb36.mono bb24.size)
      replace bb19 := bb19.trans (bb36.mono bb19.size)
      replace bb10 := bb10.trans (bb36.mono bb10.size)
      replace bb6 := bb6.trans (bb36.mono bb6.size)
      replace rb4 := rb4.up bb36
      replace bb1 := bb1.trans (bb36.mono bb1.size)
      replace q := q.trans (bb36.mono q.size)
      replace rb13 := rb13.up bb36
      replace rb27 := rb27.up bb36
      refine EE.thenN ?_
      refine CC.no rfl ?_
      refine CC.skip ?_
      refine EE.thenN ?_
      refine CC.seq ?_
      refine CC.seq ?_
      refine CC.region ?_
      refine LL.val (R.move rfl rfl) rfl rfl rfl ?_
      refine LL.nilS ?_
      refine CC.yes rfl ?_
      refine CC.seq ?_
      refine CC.region ?_
      refine LL.val (R.loadZ rfl rfl rb13 rfl rfl (by first | assumption | exact List.length_replicate | exact plL_len _ | exact plOf_len _ | simp)) rfl rfl rfl ?_
      refine LL.call (R.call rfl rfl rfl) rfl rfl rfl (ofl_T l _ (hsF _ q) h) ?_
      rintro e Wb39 ⟨vb41, rfl, hb40, bb38⟩
      refine ⟨_, rfl, ?_⟩
      have zbb38 := bb38.size
      replace bb36 := bb36.trans (bb38.mono bb36.size)
      replace bb24 := bb24.trans (bb38.mono bb24.size)
      replace bb19 := bb19.trans (bb38.mono bb19.size)
      replace bb10 := bb10.trans (bb38.mono bb10.size)
      replace bb6 := bb6.trans (bb38.mono bb6.size)
      replace rb4 := rb4.up bb38
      replace bb1 := bb1.trans (bb38.mono bb1.size)
      replace q := q.trans (bb38.mono q.size)
      replace rb13 := rb13.up bb38
      replace rb27 := rb27.up bb38
      refine LL.val (R.move rfl rfl) rfl rfl rfl ?_
      refine LL.val (R.extract rfl rfl rfl) rfl rfl rfl ?_
      refine LL.val (R.extract rfl rfl rfl) rfl rfl rfl ?_
      refine LL.val (R.assign rfl rfl) rfl rfl rfl ?_
      refine LL.val (R.assign rfl rfl) rfl rfl rfl ?_
      refine LL.nilS ?_
      refine CC.seq ?_
      refine CC.region ?_
      refine LL.val (R.move rfl rfl) rfl rfl rfl ?_
      refine LL.call (R.call rfl rfl rfl) rfl rfl rfl (num_any _ _) ?_
      rintro e W' ⟨rfl, rfl⟩
      refine ⟨_, rfl, ?_⟩
      refine LL.val (R.neF rfl rfl rfl (by omega)) rfl rfl rfl ?_
      refine LL.val (R.move rfl rfl) rfl rfl rfl ?_
      refine LL.val (R.move rfl rfl) rfl rfl rfl ?_
      refine LL.val (R.move rfl rfl) rfl rfl rfl ?_
      refine LL.call (R.call rfl rfl rfl) rfl rfl rfl (slist_T _ _ l _ (by first | assumption | omega) (hvF _ q) hlen) ?_
      rintro e Wb44 ⟨rfl, bb43⟩
      refine ⟨_, rfl, ?_⟩
      have zbb43 := bb43.size
      replace hb40 := hb40.up bb43
      replace bb38 := bb38.trans (bb43.mono bb38.size)
      replace bb36 := bb36.trans (bb43.mono bb36.size)
      replace bb24 := bb24.trans (bb43.mono bb24.size)
      replace bb19 := bb19.trans (bb43.mono bb19.size)
      replace bb10 := bb10.trans (bb43.mono bb10.size)
      replace bb6 := bb6.trans (bb43.mono bb6.size)
      replace rb4 := rb4.up bb43
      replace bb1 := bb1.trans (bb43.mono bb1.size)
      replace q := q.trans (bb43.mono q.size)
      replace rb13 := rb13.up bb43
      replace rb27 := rb27.up bb43
      refine LL.val (R.not rfl rfl) rfl rfl rfl ?_
      refine LL.val (R.pick rfl rfl rfl) rfl rfl rfl ?_
      refine LL.nilS ?_
      refine CC.no rfl ?_
      refine CC.skip ?_
      refine EE.thenN ?_
      refine CC.seq ?_
      refine CC.region ?_
      refine LL.val (R.loadZ rfl rfl rb4 rfl rfl (by first | assumption | exact List.length_replicate | exact plL_len _ | exact plOf_len _ | simp)) rfl rfl rfl ?_
      refine LL.call (R.call rfl rfl rfl) rfl rfl rfl (ofw_F ws _ (hsF _ q) hl hw hmw) ?_
      rintro e Wb47 ⟨rfl, bb46⟩
      refine ⟨_, rfl, ?_⟩
      have zbb46 := bb46.size
      replace bb43 := bb43.trans (bb46.mono bb43.size)
      replace hb40 := hb40.up bb46
      replace bb38 := bb38.trans (bb46.mono bb38.size)
      replace bb36 := bb36.trans (bb46.mono bb36.size)
      replace bb24 := bb24.trans (bb46.mono bb24.size)
      replace bb19 := bb19.trans (bb46.mono bb19.size)
      replace bb10 := bb10.trans (bb46.mono bb10.size)
      replace bb6 := bb6.trans (bb46.mono bb6.size)
      replace rb4 := rb4.up bb46
      replace bb1 := bb1.trans (bb46.mono bb1.size)
      replace q := q.trans (bb46.mono q.size)
      replace rb13 := rb13.up bb46
      replace rb27 := rb27.up bb46
      refine LL.val (R.move rfl rfl) rfl rfl rfl ?_
      refine LL.val (R.extract rfl rfl rfl) rfl rfl rfl ?_
      refine LL.val (R.extract rfl rfl rfl) rfl rfl rfl ?_
      refine LL.val (R.assign rfl rfl) rfl rfl rfl ?_
      refine LL.val (R.assign rfl rfl) rfl rfl rfl ?_
      refine LL.nilS ?_
      refine CC.seq ?_
      refine CC.region ?_
      refine LL.val (R.loadZ rfl rfl rb4 rfl rfl (by first | assumption | exact List.length_replicate | exact plL_len _ | exact plOf_len _ | simp)) rfl rfl rfl ?_
      refine LL.call (R.call rfl rfl rfl) rfl rfl rfl (rdw_F ws _ hl hw hmw) ?_
      rintro e Wb50 ⟨rfl, bb49⟩
      refine ⟨_, rfl, ?_⟩
      have zbb49 := bb49.size
      replace bb46 := bb46.trans (bb49.mono bb46.size)
      replace bb43 := bb43.trans (bb49.mono bb43.size)
      replace hb40 := hb40.up bb49
      replace bb38 := bb38.trans (bb49.mono bb38.size)
      replace bb36 := bb36.trans (bb49.mono bb36.size)
      replace bb24 := bb24.trans (bb49.mono bb24.size)
      replace bb19 := bb19.trans (bb49.mono bb19.size)
      replace bb10 := bb10.trans (bb49.mono bb10.size)
      replace bb6 := bb6.trans (bb49.mono bb6.size)
      replace rb4 := rb4.up bb49
      replace bb1 := bb1.trans (bb49.mono bb1.size)
      replace q := q.trans (bb49.mono q.size)
      replace rb13 := rb13.up bb49
      replace rb27 := rb27.up bb49
      refine LL.val (R.move rfl rfl) rfl rfl rfl ?_
      refine LL.val (R.extract rfl rfl rfl) rfl rfl rfl ?_
      refine LL.val (R.extract rfl rfl rfl) rfl rfl rfl ?_
      refine LL.val (R.assign rfl rfl) rfl rfl rfl ?_
      refine LL.val (R.assign rfl rfl) rfl rfl rfl ?_
      refine LL.nilS ?_
      refine CC.seq ?_
      refine CC.seq ?_
      refine CC.region ?_
      refine LL.val (R.move rfl rfl) rfl rfl rfl ?_
      refine LL.val (R.move rfl rfl) rfl rfl rfl ?_
      refine LL.call (R.call rfl rfl rfl) rfl rfl rfl (slist_N _) ?_
      rintro e Wb53 ⟨rfl, bb52⟩
      refine ⟨_, rfl, ?_⟩
      have zbb52 := bb52.size
      replace bb49 := bb49.trans (bb52.mono bb49.size)
      replace bb46 := bb46.trans (bb52.mono bb46.size)
      replace bb43 := bb43.trans (bb52.mono bb43.size)
      replace hb40 := hb40.up bb52
      replace bb38 := bb38.trans (bb52.mono bb38.size)
      replace bb36 := bb36.trans (bb52.mono bb36.size)
      replace bb24 := bb24.trans (bb52.mono bb24.size)
      replace bb19 := bb19.trans (bb52.mono bb19.size)
      replace bb10 := bb10.trans (bb52.mono bb10.size)
      replace bb6 := bb6.trans (bb52.mono bb6.size)
      replace rb4 := rb4.up bb52
      replace bb1 := bb1.trans (bb52.mono bb1.size)
      replace q := q.trans (bb52.mono q.size)
      replace rb13 := rb13.up bb52
      replace rb27 := rb27.up bb52
      refine LL.val (R.not rfl rfl) rfl rfl rfl ?_
      refine LL.val (R.move rfl rfl) rfl rfl rfl ?_
      refine LL.val (R.move rfl rfl) rfl rfl rfl ?_
      refine LL.call (R.call rfl rfl rfl) rfl rfl rfl (num_any _ _) ?_
      rintro e W' ⟨rfl, rfl⟩
      refine ⟨_, rfl, ?_⟩
      refine LL.val (R.move rfl rfl) rfl rfl rfl ?_
      refine LL.val (R.neF rfl rfl rfl (by omega)) rfl rfl rfl ?_
      refine LL.val (R.pick rfl rfl rfl) rfl rfl rfl ?_
      refine LL.nilS ?_
      refine CC.no rfl ?_
      refine CC.skip ?_
      refine EE.thenN ?_
      refine CC.seq ?_
      refine CC.seq ?_
      refine CC.region ?_
      refine LL.val (R.move rfl rfl) rfl rfl rfl ?_
      refine LL.val (R.neT rfl rfl rfl (by omega)) rfl rfl rfl ?_
      refine LL.nilS ?_
      refine CC.yes rfl ?_
      refine CC.seq ?_
      refine CC.region ?_
      refine LL.call (R.call rfl rfl rfl) rfl rfl rfl (works_any _ (hsF _ q)) ?_
      rintro e Wb56 ⟨rfl, bb55⟩
      refine ⟨_, rfl, ?_⟩
      have zbb55 := bb55.size
      replace bb52 := bb52.trans (bb55.mono bb52.size)
      replace bb49 := bb49.trans (bb55.mono bb49.size)
      replace bb46 := bb46.trans (bb55.mono bb46.size)
      replace bb43 := bb43.trans (bb55.mono bb43.size)
      replace hb40 := hb40.up bb55
      replace bb38 := bb38.trans (bb55.mono bb38.size)
      replace bb36 := bb36.trans (bb55.mono bb36.size)
      replace bb24 := bb24.trans (bb55.mono bb24.size)
      replace bb19 := bb19.trans (bb55.mono bb19.size)
      replace bb10 := bb10.trans (bb55.mono bb10.size)
      replace bb6 := bb6.trans (bb55.mono bb6.size)
      replace rb4 := rb4.up bb55
      replace bb1 := bb1.trans (bb55.mono bb1.size)
      replace q := q.trans (bb55.mono q.size)
      replace rb13 := rb13.up bb55
      replace rb27 := rb27.up bb55
      refine LL.val (R.assign rfl rfl) rfl rfl rfl ?_
      refine LL.nilS ?_
      refine CC.ret ?_
      refine EE.thenR ?_
      refine EE.ret _ rfl rfl ?_
      exact ⟨rfl, q⟩
  · by_cases hmw : mapW ws
    · have hwo : (wrdZ (outZ ws)).length = 10 := wrdZ_len hmw.1.1
      have he := hmw.2
      refine X.fn Tryd.func7 rfl (n := 113) rfl rfl ?_
      refine CC.seq ?_
      refine CC.region ?_
      refine LL.box _ rfl rfl rfl rfl rfl ?_
      intro Wc2 gc3 egc3 rc4 zc5 bc1
      replace q := q.trans (bc1.mono q.size)
      refine LL.val (R.assign rfl rfl) rfl rfl rfl ?_
      refine LL.nilS ?_
      refine CC.seq ?_
      refine CC.seq ?_
      refine CC.region ?_
      refine LL.val (R.move rfl rfl) rfl rfl rfl ?_
      refine LL.val (R.len rfl rfl rfl rfl) rfl rfl rfl ?_
      refine LL.val (R.gtF rfl rfl rfl (by omega)) rfl rfl rfl ?_
      refine LL.nilS ?_
      refine CC.no rfl ?_
      refine CC.skip ?_
      refine EE.thenN ?_
      refine CC.seq ?_
      refine CC.region ?_
      refine LL.val (R.move rfl rfl) rfl rfl rfl ?_
      refine LL.call (R.call rfl rfl rfl) rfl rfl rfl (words_F l _ _ (hvF _ q) hlen h) ?_
      rintro e Wc7 ⟨rfl, bc6⟩
      refine ⟨_, rfl, ?_⟩
      have zbc6 := bc6.size
      replace rc4 := rc4.up bc6
      replace bc1 := bc1.trans (bc6.mono bc1.size)
      replace q := q.trans (bc6.mono q.size)
      refine LL.val (R.move rfl rfl) rfl rfl rfl ?_
      refine LL.val (R.extract rfl rfl rfl) rfl rfl rfl ?_
      refine LL.val (R.extract rfl rfl rfl) rfl rfl rfl ?_
      have lc9 := rc4.lt
      refine LL.alloc (intsZ .u64 (List.replicate 10 0)) rfl rfl rfl rfl rfl ?_
      intro Wc11 gc12 egc12 rc13 zc14 bc10
      replace bc6 := bc6.trans (bc10.mono bc6.size)
      replace rc4 := rc4.up bc10
      replace bc1 := bc1.trans (bc10.mono bc1.size)
      replace q := q.trans (bc10.mono q.size)
      refine LL.storeAZ rfl rfl rfl rfl (by first | assumption | exact List.length_replicate | exact plL_len _ | exact plOf_len _ | simp) rc13 (by first | (rw [List.length_map]; exact (by first | assumption | exact List.length_replicate | exact plL_len _ | exact plOf_len _ | simp)) | simp) rfl rfl ?_
      intro Wc16 rc17 bc15 zc18
      have hlbc15 := rc13.lt
      replace rc17 : RowL Wc16 _ 53 [(fun z => Value.int IntKind.u64 z) 0, (fun z => Value.int IntKind.u64 z) 0, (fun z => Value.int IntKind.u64 z) 0, (fun z => Value.int IntKind.u64 z) 0, (fun z => Value.int IntKind.u64 z) 0, (fun z => Value.int IntKind.u64 z) 0, (fun z => Value.int IntKind.u64 z) 0, (fun z => Value.int IntKind.u64 z) 0, (fun z => Value.int IntKind.u64 z) 0, (fun z => Value.int IntKind.u64 z) 0] := rc17
      clear rc13
      replace bc10 := bc10.grown bc15 bc10.size (by rintro k ⟨⟩; omega)
      replace bc6 := bc6.grown bc15 bc6.size (by rintro k ⟨⟩; omega)
      replace rc4 := rc4.gr bc15 (by have := rc4.lt; omega)
      replace bc1 := bc1.grown bc15 bc1.size (by rintro k ⟨⟩; omega)
      replace q := q.grown bc15 q.size (by rintro k ⟨⟩; omega)
      have rc13 := rc17
      clear rc17
      refine LL.val (R.assign rfl rfl) rfl rfl rfl ?_
      refine LL.nilS ?_
      refine CC.seq ?_
      refine CC.region ?_
      refine LL.val (R.move rfl rfl) rfl rfl rfl ?_
      refine LL.call (R.call rfl rfl rfl) rfl rfl rfl (rof_F l _ _ (hvF _ q) hlen h) ?_
      rintro e Wc20 ⟨vc21, rfl, kc22, bc19⟩
      refine ⟨_, rfl, ?_⟩
      have zbc19 := bc19.size
      replace bc10 := bc10.trans (bc19.mono bc10.size)
      replace bc6 := bc6.trans (bc19.mono bc6.size)
      replace rc4 := rc4.up bc19
      replace bc1 := bc1.trans (bc19.mono bc1.size)
      replace q := q.trans (bc19.mono q.size)
      replace rc13 := rc13.up bc19
      refine LL.val (R.move rfl rfl) rfl rfl rfl ?_
      refine LL.val (R.extract rfl rfl rfl) rfl rfl rfl ?_
      refine LL.val (R.extract rfl rfl rfl) rfl rfl rfl ?_
      have lc24 := rc4.lt
      have lc25 := rc13.lt
      refine LL.alloc (intsZ .i64 (List.replicate 128 0)) rfl rfl rfl rfl rfl ?_
      intro Wc27 gc28 egc28 rc29 zc30 bc26
      replace bc19 := bc19.trans (bc26.mono bc19.size)
      replace bc10 := bc10.trans (bc26.mono bc10.size)
      replace bc6 := bc6.trans (bc26.mono bc6.size)
      replace rc4 := rc4.up bc26
      replace bc1 := bc1.trans (bc26.mono bc1.size)
      replace q := q.trans (bc26.mono q.size)
      replace rc13 := rc13.up bc26
      refine LL.storeAZ rfl rfl rfl rfl (by first | assumption | exact List.length_replicate | exact plL_len _ | exact plOf_len _ | simp) rc29 (by first | (rw [List.length_map]; exact (by first | assumption | exact List.length_replicate | exact plL_len _ | exact plOf_len _ | simp)) | simp) rfl rfl ?_
      intro Wc32 rc33 bc31 zc34
      have hlbc31 := rc29.lt
      clear rc29
      replace bc26 := bc26.grown bc31 bc26.size (by rintro k ⟨⟩; omega)
      replace bc19 := bc19.grown bc31 bc19.size (by rintro k ⟨⟩; omega)
      replace bc10 := bc10.grown bc31 bc10.size (by rintro k ⟨⟩; omega)
      replace bc6 := bc6.grown bc31 bc6.size (by rintro k ⟨⟩; omega)
      replace rc4 := rc4.gr bc31 (by have := rc4.lt; omega)
      replace bc1 := bc1.grown bc31 bc1.size (by rintro k ⟨⟩; omega)
      replace q := q.grown bc31 q.size (by rintro k ⟨⟩; omega)
      replace rc13 := rc13.gr bc31 (by have := rc13.lt; omega)
      have rc29 := rc33
      clear rc33
      refine LL.val (R.assign rfl rfl) rfl rfl rfl ?_
      refine LL.nilS ?_
      refine CC.seq ?_
      refine CC.seq ?_
      refine CC.grow (by kernel_rfl) (by kernel_rfl) ?_
      refine GG.val (fun w' b' => R.move rfl rfl) rfl rfl ?_
      refine GG.val (fun w' b' => R.move rfl rfl) rfl rfl ?_
      refine GG.call (fun w' => (R.call rfl rfl rfl)) rfl rfl (fun w' b' => (num_any _ w').mono fun e W' h => ⟨h.1, h.2 ▸ b'⟩) ?_
      refine GG.val (fun w' b' => R.eqF rfl rfl rfl (by omega)) rfl rfl ?_
      refine GG.val (fun w' b' => R.neBool rfl rfl rfl rfl rfl) rfl rfl ?_
      refine GG.val (fun w' b' => R.move rfl rfl) rfl rfl ?_
      refine GG.val (fun w' b' => R.move rfl rfl) rfl rfl ?_
      refine GG.val (fun w' b' => R.move rfl rfl) rfl rfl ?_
      refine GG.skip rfl rfl ?_
      refine GG.skip rfl rfl ?_
      refine GG.skip rfl rfl ?_
      refine GG.skip rfl rfl ?_
      refine GG.val (fun w' b' => R.pick rfl rfl rfl) rfl rfl ?_
      refine GG.val (fun w' b' => R.pick rfl rfl rfl) rfl rfl ?_
      refine GG.val (fun w' b' => R.move rfl rfl) rfl rfl ?_
      refine GG.val (fun w' b' => R.move rfl rfl) rfl rfl ?_
      refine GG.val (fun w' b' => R.not rfl rfl) rfl rfl ?_
      refine GG.val (fun w' b' => R.move rfl rfl) rfl rfl ?_
      refine GG.val (fun w' b' => R.move rfl rfl) rfl rfl ?_
      refine GG.call (fun w' => (R.call rfl rfl rfl)) rfl rfl (fun w' b' => (num_any _ w').mono fun e W' h => ⟨h.1, h.2 ▸ b'⟩) ?_
      refine GG.val (fun w' b' => R.neF rfl rfl rfl (by omega)) rfl rfl ?_
      refine GG.val (fun w' b' => R.move rfl rfl) rfl rfl ?_
      refine GG.val (fun w' b' => R.load rfl rfl (I.ldNc (vs := [(fun z => Value.int IntKind.u64 z) 0, (fun z => Value.int IntKind.u64 z) 0, (fun z => Value.int IntKind.u64 z) 0, (fun z => Value.int IntKind.u64 z) 0, (fun z => Value.int IntKind.u64 z) 0, (fun z => Value.int IntKind.u64 z) 0, (fun z => Value.int IntKind.u64 z) 0, (fun z => Value.int IntKind.u64 z) 0, (fun z => Value.int IntKind.u64 z) 0, (fun z => Value.int IntKind.u64 z) 0]) (RowL.cells (rc13.up b') rfl) (by rfl) (by rfl))) rfl rfl ?_
      refine GG.val (fun w' b' => R.buildV rfl rfl (v := .agg #[Value.int IntKind.u64 0, Value.int IntKind.u64 0, Value.int IntKind.u64 0, Value.int IntKind.u64 0, Value.int IntKind.u64 0, Value.int IntKind.u64 0, Value.int IntKind.u64 0, Value.int IntKind.u64 0, Value.int IntKind.u64 0, Value.int IntKind.u64 0]) (fun _ => by kernel_rfl)) rfl rfl ?_
      refine GG.val (fun w' b' => R.neZT (xa := List.replicate 10 0) (xb := List.replicate 10 0) rfl rfl rfl Tryd.underlying53 Tryd.underlying52 rfl (by decide) rfl (by kernel_rfl) (by assumption) (by assumption) (by first | assumption | rfl)) rfl rfl ?_
      refine GG.val (fun w' b' => R.pick rfl rfl rfl) rfl rfl ?_
      refine GG.val (fun w' b' => R.pick rfl rfl rfl) rfl rfl ?_
      refine GG.val (fun w' b' => R.pick rfl rfl rfl) rfl rfl ?_
      refine GG.nilQ (fun Wc39 bc38 => ?_)
      have zbc38 := bc38.size
      replace bc26 := bc26.trans (bc38.mono bc26.size)
      replace bc19 := bc19.trans (bc38.mono bc19.size)
      replace bc10 := bc10.trans (bc38.mono bc10.size)
      replace bc6 := bc6.trans (bc38.mono bc6.size)
      replace rc4 := rc4.up bc38
      replace bc1 := bc1.trans (bc38.mono bc1.size)
      replace q := q.trans (bc38.mono q.size)
      replace rc13 := rc13.up bc38
      replace rc29 := rc29.up bc38
      refine EE.thenN ?_
      refine CC.no rfl ?_
      refine CC.skip ?_
      refine EE.thenN ?_
      refine CC.seq ?_
      refine CC.seq ?_
      refine CC.region ?_
      refine LL.val (R.move rfl rfl) rfl rfl rfl ?_
      refine LL.nilS ?_
      refine CC.no rfl ?_
      refine CC.skip ?_
      refine EE.thenN ?_
      refine CC.seq ?_
      refine CC.region ?_
      refine LL.val (R.loadZ rfl rfl rc4 rfl rfl (by first | assumption | exact List.length_replicate | exact plL_len _ | exact plOf_len _ | simp)) rfl rfl rfl ?_
      refine LL.call (R.call rfl rfl rfl) rfl rfl rfl (ofw_T ws _ (hsF _ q) hl hw hmw) ?_
      rintro e Wc41 ⟨vc43, rfl, hc42, bc40⟩
      refine ⟨_, rfl, ?_⟩
      have zbc40 := bc40.size
      replace bc38 := bc38.trans (bc40.mono bc38.size)
      replace bc26 := bc26.trans (bc40.mono bc26.size)
      replace bc19 := bc19.trans (bc40.mono bc19.size)
      replace bc10 := bc10.trans (bc40.mono bc10.size)
      replace bc6 := bc6.trans (bc40.mono bc6.size)
      replace rc4 := rc4.up bc40
      replace bc1 := bc1.trans (bc40.mono bc1.size)
      replace q := q.trans (bc40.mono q.size)
      replace rc13 := rc13.up bc40
      replace rc29 := rc29.up bc40
      refine LL.val (R.move rfl rfl) rfl rfl rfl ?_
      refine LL.val (R.extract rfl rfl rfl) rfl rfl rfl ?_
      refine LL.val (R.extract rfl rfl rfl) rfl rfl rfl ?_
      refine LL.val (R.assign rfl rfl) rfl rfl rfl ?_
      refine LL.val (R.assign rfl rfl) rfl rfl rfl ?_
      refine LL.nilS ?_
      refine CC.seq ?_
      refine CC.region ?_
      refine LL.val (R.loadZ rfl rfl rc4 rfl rfl (by first | assumption | exact List.length_replicate | exact plL_len _ | exact plOf_len _ | simp)) rfl rfl rfl ?_
      refine LL.call (R.call rfl rfl rfl) rfl rfl rfl (rdw_T ws _ hl hw hmw) ?_
      rintro e Wc46 ⟨vc48, rfl, hc47, bc45⟩
      refine ⟨_, rfl, ?_⟩
      have zbc45 := bc45.size
      replace hc42 := hc42.up bc45
      replace bc40 := bc40.trans (bc45.mono bc40.size)
      replace bc38 := bc38.trans (bc45.mono bc38.size)
      replace bc26 := bc26.trans (bc45.mono bc26.size)
      replace bc19 := bc19.trans (bc45.mono bc19.size)
      replace bc10 := bc10.trans (bc45.mono bc10.size)
      replace bc6 := bc6.trans (bc45.mono bc6.size)
      replace rc4 := rc4.up bc45
      replace bc1 := bc1.trans (bc45.mono bc1.size)
      replace q := q.trans (bc45.mono q.size)
      replace rc13 := rc13.up bc45
      replace rc29 := rc29.up bc45
      refine LL.val (R.move rfl rfl) rfl rfl rfl ?_
      refine LL.val (R.extract rfl rfl rfl) rfl rfl rfl ?_
      refine LL.val (R.extract rfl rfl rfl) rfl rfl rfl ?_
      refine LL.val (R.assign rfl rfl) rfl rfl rfl ?_
      refine LL.val (R.assign rfl rfl) rfl rfl rfl ?_
      refine LL.nilS ?_
      refine CC.seq ?_
      refine CC.seq ?_
      refine CC.region ?_
      refine LL.val (R.move rfl rfl) rfl rfl rfl ?_
      refine LL.val (R.move rfl rfl) rfl rfl rfl ?_
      refine LL.call (R.call rfl rfl rfl) rfl rfl rfl (slist_T _ _ (outZ ws) _ (by first | assumption | omega) (by first | assumption | omega) hlo) ?_
      rintro e Wc51 ⟨rfl, bc50⟩
      refine ⟨_, rfl, ?_⟩
      have zbc50 := bc50.size
      replace hc47 := hc47.up bc50
      replace bc45 := bc45.trans (bc50.mono bc45.size)
      replace hc42 := hc42.up bc50
      replace bc40 := bc40.trans (bc50.mono bc40.size)
      replace bc38 := bc38.trans (bc50.mono bc38.size)
      replace bc26 := bc26.trans (bc50.mono bc26.size)
      replace bc19 := bc19.trans (bc50.mono bc19.size)
      replace bc10 := bc10.trans (bc50.mono bc10.size)
      replace bc6 := bc6.trans (bc50.mono bc6.size)
      replace rc4 := rc4.up bc50
      replace bc1 := bc1.trans (bc50.mono bc1.size)
      replace q := q.trans (bc50.mono q.size)
      replace rc13 := rc13.up bc50
      replace rc29 := rc29.up bc50
      refine LL.val (R.not rfl rfl) rfl rfl rfl ?_
      refine LL.val (R.move rfl rfl) rfl rfl rfl ?_
      refine LL.val (R.move rfl rfl) rfl rfl rfl ?_
      refine LL.call (R.call rfl rfl rfl) rfl rfl rfl (num_any _ _) ?_
      rintro e W' ⟨rfl, rfl⟩
      refine ⟨_, rfl, ?_⟩
      refine LL.val (R.move rfl rfl) rfl rfl rfl ?_
      refine LL.val (R.neF rfl rfl rfl (by omega)) rfl rfl rfl ?_
      refine LL.val (R.pick rfl rfl rfl) rfl rfl rfl ?_
      refine LL.nilS ?_
      refine CC.no rfl ?_
      refine CC.skip ?_
      refine EE.thenN ?_
      refine CC.seq ?_
      refine CC.seq ?_
      refine CC.region ?_
      refine LL.val (R.move rfl rfl) rfl rfl rfl ?_
      refine LL.val (R.neF rfl rfl rfl (by omega)) rfl rfl rfl ?_
      refine LL.nilS ?_
      refine CC.no rfl ?_
      refine CC.skip ?_
      refine EE.thenN ?_
      refine CC.seq ?_
      refine CC.region ?_
      refine LL.val (R.move rfl rfl) rfl rfl rfl ?_
      refine LL.call (R.call rfl rfl rfl) rfl rfl rfl (words_T (outZ ws) _ _ (hsF _ q) (by first | assumption | omega) hmw.1) ?_
      rintro e Wc54 ⟨rfl, bc53⟩
      refine ⟨_, rfl, ?_⟩
      have zbc53 := bc53.size
      replace bc50 := bc50.trans (bc53.mono bc50.size)
      replace hc47 := hc47.up bc53
      replace bc45 := bc45.trans (bc53.mono bc45.size)
      replace hc42 := hc42.up bc53
      replace bc40 := bc40.trans (bc53.mono bc40.size)
      replace bc38 := bc38.trans (bc53.mono bc38.size)
      replace bc26 := bc26.trans (bc53.mono bc26.size)
      replace bc19 := bc19.trans (bc53.mono bc19.size)
      replace bc10 := bc10.trans (bc53.mono bc10.size)
      replace bc6 := bc6.trans (bc53.mono bc6.size)
      replace rc4 := rc4.up bc53
      replace bc1 := bc1.trans (bc53.mono bc1.size)
      replace q := q.trans (bc53.mono q.size)
      replace rc13 := rc13.up bc53
      replace rc29 := rc29.up bc53
      refine LL.val (R.move rfl rfl) rfl rfl rfl ?_
      refine LL.val (R.extract rfl rfl rfl) rfl rfl rfl ?_
      refine LL.val (R.extract rfl rfl rfl) rfl rfl rfl ?_
      have lc56 := rc4.lt
      have lc57 := rc13.lt
      have lc58 := rc29.lt
      refine LL.alloc (intsZ .u64 (List.replicate 10 0)) rfl rfl rfl rfl rfl ?_
      intro Wc60 gc61 egc61 rc62 zc63 bc59
      replace bc53 := bc53.trans (bc59.mono bc53.size)
      replace bc50 := bc50.trans (bc59.mono bc50.size)
      replace hc47 := hc47.up bc59
      replace bc45 := bc45.trans (bc59.mono bc45.size)
      replace hc42 := hc42.up bc59
      replace bc40 := bc40.trans (bc59.mono bc40.size)
      replace bc38 := bc38.trans (bc59.mono bc38.size)
      replace bc26 := bc26.trans (bc59.mono bc26.size)
      replace bc19 := bc19.trans (bc59.mono bc19.size)
      replace bc10 := bc10.trans (bc59.mono bc10.size)
      replace bc6 := bc6.trans (bc59.mono bc6.size)
      replace rc4 := rc4.up bc59
      replace bc1 := bc1.trans (bc59.mono bc1.size)
      replace q := q.trans (bc59.mono q.size)
      replace rc13 := rc13.up bc59
      replace rc29 := rc29.up bc59
      refine LL.storeAZ rfl rfl rfl rfl (by first | assumption | exact List.length_replicate | exact plL_len _ | exact plOf_len _ | simp) rc62 (by first | (rw [List.length_map]; exact (by first | assumption | exact List.length_replicate | exact plL_len _ | exact plOf_len _ | simp)) | simp) rfl rfl ?_
      intro Wc65 rc66 bc64 zc67
      have hlbc64 := rc62.lt
      clear rc62
      replace bc59 := bc59.grown bc64 bc59.size (by rintro k ⟨⟩; omega)
      replace bc53 := bc53.grown bc64 bc53.size (by rintro k ⟨⟩; omega)
      replace bc50 := bc50.grown bc64 bc50.size (by rintro k ⟨⟩; omega)
      replace bc45 := bc45.grown bc64 bc45.size (by rintro k ⟨⟩; omega)
      replace bc40 := bc40.grown bc64 bc40.size (by rintro k ⟨⟩; omega)
      replace bc38 := bc38.grown bc64 bc38.size (by rintro k ⟨⟩; omega)
      replace bc26 := bc26.grown bc64 bc26.size (by rintro k ⟨⟩; omega)
      replace bc19 := bc19.grown bc64 bc19.size (by rintro k ⟨⟩; omega)
      replace bc10 := bc10.grown bc64 bc10.size (by rintro k ⟨⟩; omega)
      replace bc6 := bc6.grown bc64 bc6.size (by rintro k ⟨⟩; omega)
      replace rc4 := rc4.gr bc64 (by have := rc4.lt; omega)
      replace bc1 := bc1.grown bc64 bc1.size (by rintro k ⟨⟩; omega)
      replace q := q.grown bc64 q.size (by rintro k ⟨⟩; omega)
      replace rc13 := rc13.gr bc64 (by have := rc13.lt; omega)
      replace rc29 := rc29.gr bc64 (by have := rc29.lt; omega)
      have rc62 := rc66
      clear rc66
      refine LL.val (R.assign rfl rfl) rfl rfl rfl ?_
      refine LL.nilS ?_
      refine CC.seq ?_
      refine CC.region ?_
      refine LL.val (R.move rfl rfl) rfl rfl rfl ?_
      refine LL.call (R.call rfl rfl rfl) rfl rfl rfl (num_any _ _) ?_
      rintro e W' ⟨rfl, rfl⟩
      refine ⟨_, rfl, ?_⟩
      refine LL.val (R.eqT rfl rfl rfl (by omega)) rfl rfl rfl ?_
      refine LL.val (R.move rfl rfl) rfl rfl rfl ?_
      refine LL.val (R.loadZ rfl rfl rc62 rfl rfl (by first | assumption | exact List.length_replicate | exact plL_len _ | exact plOf_len _ | simp)) rfl rfl rfl ?_
      refine LL.val (R.loadZ rfl rfl rc4 rfl rfl (by first | assumption | exact List.length_replicate | exact plL_len _ | exact plOf_len _ | simp)) rfl rfl rfl ?_
      refine LL.val (R.eqZT rfl rfl rfl Tryd.underlying53 Tryd.underlying52 rfl (by decide) rfl (by kernel_rfl) (by assumption) (by assumption) (by first | assumption | rfl)) rfl rfl rfl ?_
      refine LL.val (R.pick rfl rfl rfl) rfl rfl rfl ?_
      refine LL.val (R.move rfl rfl) rfl rfl rfl ?_
      refine LL.call (R.call rfl rfl rfl) rfl rfl rfl (works_any _ (hsF _ q)) ?_
      rintro e Wc69 ⟨rfl, bc68⟩
      refine ⟨_, rfl, ?_⟩
      have zbc68 := bc68.size
      replace bc59 := bc59.trans (bc68.mono bc59.size)
      replace bc53 := bc53.trans (bc68.mono bc53.size)
      replace bc50 := bc50.trans (bc68.mono bc50.size)
      replace bc45 := bc45.trans (bc68.mono bc45.size)
      replace bc40 := bc40.trans (bc68.mono bc40.size)
      replace bc38 := bc38.trans (bc68.mono bc38.size)
      replace bc26 := bc26.trans (bc68.mono bc26.size)
      replace bc19 := bc19.trans (bc68.mono bc19.size)
      replace bc10 := bc10.trans (bc68.mono bc10.size)
      replace bc6 := bc6.trans (bc68.mono bc6.size)
      replace rc4 := rc4.up bc68
      replace bc1 := bc1.trans (bc68.mono bc1.size)
      replace q := q.trans (bc68.mono q.size)
      replace rc13 := rc13.up bc68
      replace rc29 := rc29.up bc68
      replace rc62 := rc62.up bc68
      refine LL.val (R.pick rfl rfl rfl) rfl rfl rfl ?_
      refine LL.val (R.assign rfl rfl) rfl rfl rfl ?_
      refine LL.nilS ?_
      refine CC.ret ?_
      refine EE.ret _ rfl rfl ?_
      exact ⟨rfl, q⟩
    · refine X.fn Tryd.func7 rfl (n := 113) rfl rfl ?_
      refine CC.seq ?_
      refine CC.region ?_
      refine LL.box _ rfl rfl rfl rfl rfl ?_
      intro Wd2 gd3 egd3 rd4 zd5 bd1
      replace q := q.trans (bd1.mono q.size)
      refine LL.val (R.assign rfl rfl) rfl rfl rfl ?_
      refine LL.nilS ?_
      refine CC.seq ?_
      refine CC.seq ?_
      refine CC.region ?_
      refine LL.val (R.move rfl rfl) rfl rfl rfl ?_
      refine LL.val (R.len rfl rfl rfl rfl) rfl rfl rfl ?_
      refine LL.val (R.gtF rfl rfl rfl (by omega)) rfl rfl rfl ?_
      refine LL.nilS ?_
      refine CC.no rfl ?_
      refine CC.skip ?_
      refine EE.thenN ?_
      refine CC.seq ?_
      refine CC.region ?_
      refine LL.val (R.move rfl rfl) rfl rfl rfl ?_
      refine LL.call (R.call rfl rfl rfl) rfl rfl rfl (words_F l _ _ (hvF _ q) hlen h) ?_
      rintro e Wd7 ⟨rfl, bd6⟩
      refine ⟨_, rfl, ?_⟩
      have zbd6 := bd6.size
      replace rd4 := rd4.up bd6
      replace bd1 := bd1.trans (bd6.mono bd1.size)
      replace q := q.trans (bd6.mono q.size)
      refine LL.val (R.move rfl rfl) rfl rfl rfl ?_
      refine LL.val (R.extract rfl rfl rfl) rfl rfl rfl ?_
      refine LL.val (R.extract rfl rfl rfl) rfl rfl rfl ?_
      have ld9 := rd4.lt
      refine LL.alloc (intsZ .u64 (List.replicate 10 0)) rfl rfl rfl rfl rfl ?_
      intro Wd11 gd12 egd12 rd13 zd14 bd10
      replace bd6 := bd6.trans (bd10.mono bd6.size)
      replace rd4 := rd4.up bd10
      replace bd1 := bd1.trans (bd10.mono bd1.size)
      replace q := q.trans (bd10.mono q.size)
      refine LL.storeAZ rfl rfl rfl rfl (by first | assumption | exact List.length_replicate | exact plL_len _ | exact plOf_len _ | simp) rd13 (by first | (rw [List.length_map]; exact (by first | assumption | exact List.length_replicate | exact plL_len _ | exact plOf_len _ | simp)) | simp) rfl rfl ?_
      intro Wd16 rd17 bd15 zd18
      have hlbd15 := rd13.lt
      replace rd17 : RowL Wd16 _ 53 [(fun z => Value.int IntKind.u64 z) 0, (fun z => Value.int IntKind.u64 z) 0, (fun z => Value.int IntKind.u64 z) 0, (fun z => Value.int IntKind.u64 z) 0, (fun z => Value.int IntKind.u64 z) 0, (fun z => Value.int IntKind.u64 z) 0, (fun z => Value.int IntKind.u64 z) 0, (fun z => Value.int IntKind.u64 z) 0, (fun z => Value.int IntKind.u64 z) 0, (fun z => Value.int IntKind.u64 z) 0] := rd17
      clear rd13
      replace bd10 := bd10.grown bd15 bd10.size (by rintro k ⟨⟩; omega)
      replace bd6 := bd6.grown bd15 bd6.size (by rintro k ⟨⟩; omega)
      replace rd4 := rd4.gr bd15 (by have := rd4.lt; omega)
      replace bd1 := bd1.grown bd15 bd1.size (by rintro k ⟨⟩; omega)
      replace q := q.grown bd15 q.size (by rintro k ⟨⟩; omega)
      have rd13 := rd17
      clear rd17
      refine LL.val (R.assign rfl rfl) rfl rfl rfl ?_
      refine LL.nilS ?_
      refine CC.seq ?_
      refine CC.region ?_
      refine LL.val (R.move rfl rfl) rfl rfl rfl ?_
      refine LL.call (R.call rfl rfl rfl) rfl rfl rfl (rof_F l _ _ (hvF _ q) hlen h) ?_
      rintro e Wd20 ⟨vd21, rfl, kd22, bd19⟩
      refine ⟨_, rfl, ?_⟩
      have zbd19 := bd19.size
      replace bd10 := bd10.trans (bd19.mono bd10.size)
      replace bd6 := bd6.trans (bd19.mono bd6.size)
      replace rd4 := rd4.up bd19
      replace bd1 := bd1.trans (bd19.mono bd1.size)
      replace q := q.trans (bd19.mono q.size)
      replace rd13 := rd13.up bd19
      refine LL.val (R.move rfl rfl) rfl rfl rfl ?_
      refine LL.val (R.extract rfl rfl rfl) rfl rfl rfl ?_
      refine LL.val (R.extract rfl rfl rfl) rfl rfl rfl ?_
      have ld24 := rd4.lt
      have ld25 := rd13.lt
      refine LL.alloc (intsZ .i64 (List.replicate 128 0)) rfl rfl rfl rfl rfl ?_
      intro Wd27 gd28 egd28 rd29 zd30 bd26
      replace bd19 := bd19.trans (bd26.mono bd19.size)
      replace bd10 := bd10.trans (bd26.mono bd10.size)
      replace bd6 := bd6.trans (bd26.mono bd6.size)
      replace rd4 := rd4.up bd26
      replace bd1 := bd1.trans (bd26.mono bd1.size)
      replace q := q.trans (bd26.mono q.size)
      replace rd13 := rd13.up bd26
      refine LL.storeAZ rfl rfl rfl rfl (by first | assumption | exact List.length_replicate | exact plL_len _ | exact plOf_len _ | simp) rd29 (by first | (rw [List.length_map]; exact (by first | assumption | exact List.length_replicate | exact plL_len _ | exact plOf_len _ | simp)) | simp) rfl rfl ?_
      intro Wd32 rd33 bd31 zd34
      have hlbd31 := rd29.lt
      clear rd29
      replace bd26 := bd26.grown bd31 bd26.size (by rintro k ⟨⟩; omega)
      replace bd19 := bd19.grown bd31 bd19.size (by rintro k ⟨⟩; omega)
      replace bd10 := bd10.grown bd31 bd10.size (by rintro k ⟨⟩; omega)
      replace bd6 := bd6.grown bd31 bd6.size (by rintro k ⟨⟩; omega)
      replace rd4 := rd4.gr bd31 (by have := rd4.lt; omega)
      replace bd1 := bd1.grown bd31 bd1.size (by rintro k ⟨⟩; omega)
      replace q := q.grown bd31 q.size (by rintro k ⟨⟩; omega)
      replace rd13 := rd13.gr bd31 (by have := rd13.lt; omega)
      have rd29 := rd33
      clear rd33
      refine LL.val (R.assign rfl rfl) rfl rfl rfl ?_
      refine LL.nilS ?_
      refine CC.seq ?_
      refine CC.seq ?_
      refine CC.grow (by kernel_rfl) (by kernel_rfl) ?_
      refine GG.val (fun w' b' => R.move rfl rfl) rfl rfl ?_
      refine GG.val (fun w' b' => R.move rfl rfl) rfl rfl ?_
      refine GG.call (fun w' => (R.call rfl rfl rfl)) rfl rfl (fun w' b' => (num_any _ w').mono fun e W' h => ⟨h.1, h.2 ▸ b'⟩) ?_
      refine GG.val (fun w' b' => R.eqF rfl rfl rfl (by omega)) rfl rfl ?_
      refine GG.val (fun w' b' => R.neBool rfl rfl rfl rfl rfl) rfl rfl ?_
      refine GG.val (fun w' b' => R.move rfl rfl) rfl rfl ?_
      refine GG.val (fun w' b' => R.move rfl rfl) rfl rfl ?_
      refine GG.val (fun w' b' => R.move rfl rfl) rfl rfl ?_
      refine GG.skip rfl rfl ?_
      refine GG.skip rfl rfl ?_
      refine GG.skip rfl rfl ?_
      refine GG.skip rfl rfl ?_
      refine GG.val (fun w' b' => R.pick rfl rfl rfl) rfl rfl ?_
      refine GG.val (fun w' b' => R.pick rfl rfl rfl) rfl rfl ?_
      refine GG.val (fun w' b' => R.move rfl rfl) rfl rfl ?_
      refine GG.val (fun w' b' => R.move rfl rfl) rfl rfl ?_
      refine GG.val (fun w' b' => R.not rfl rfl) rfl rfl ?_
      refine GG.val (fun w' b' => R.move rfl rfl) rfl rfl ?_
      refine GG.val (fun w' b' => R.move rfl rfl) rfl rfl ?_
      refine GG.call (fun w' => (R.call rfl rfl rfl)) rfl rfl (fun w' b' => (num_any _ w').mono fun e W' h => ⟨h.1, h.2 ▸ b'⟩) ?_
      refine GG.val (fun w' b' => R.neF rfl rfl rfl (by omega)) rfl rfl ?_
      refine GG.val (fun w' b' => R.move rfl rfl) rfl rfl ?_
      refine GG.val (fun w' b' => R.load rfl rfl (I.ldNc (vs := [(fun z => Value.int IntKind.u64 z) 0, (fun z => Value.int IntKind.u64 z) 0, (fun z => Value.int IntKind.u64 z) 0, (fun z => Value.int IntKind.u64 z) 0, (fun z => Value.int IntKind.u64 z) 0, (fun z => Value.int IntKind.u64 z) 0, (fun z => Value.int IntKind.u64 z) 0, (fun z => Value.int IntKind.u64 z) 0, (fun z => Value.int IntKind.u64 z) 0, (fun z => Value.int IntKind.u64 z) 0]) (RowL.cells (rd13.up b') rfl) (by rfl) (by rfl))) rfl rfl ?_
      refine GG.val (fun w' b' => R.buildV rfl rfl (v := .agg #[Value.int IntKind.u64 0, Value.int IntKind.u64 0, Value.int IntKind.u64 0, Value.int IntKind.u64 0, Value.int IntKind.u64 0, Value.int IntKind.u64 0, Value.int IntKind.u64 0, Value.int IntKind.u64 0, Value.int IntKind.u64 0, Value.int IntKind.u64 0]) (fun _ => by kernel_rfl)) rfl rfl ?_
      refine GG.val (fun w' b' => R.neZT rfl rfl rfl Tryd.underlying53 Tryd.underlying52 rfl (by decide) rfl (by kernel_rfl) (by assumption) (by assumption) (by first | assumption | rfl)) rfl rfl ?_
      refine GG.val (fun w' b' => R.pick rfl rfl rfl) rfl rfl ?_
      refine GG.val (fun w' b' => R.pick rfl rfl rfl) rfl rfl ?_
      refine GG.val (fun w' b' => R.pick rfl rfl rfl) rfl rfl ?_
      refine GG.nilQ (fun Wd39 bd38 => ?_)
      have zbd38 := bd38.size
      replace bd26 := bd26.trans (bd38.mono bd26.size)
      replace bd19 := bd19.trans (bd38.mono bd19.size)
      replace bd10 := bd10.trans (bd38.mono bd10.size)
      replace bd6 := bd6.trans (bd38.mono bd6.size)
      replace rd4 := rd4.up bd38
      replace bd1 := bd1.trans (bd38.mono bd1.size)
      replace q := q.trans (bd38.mono q.size)
      replace rd13 := rd13.up bd38
      replace rd29 := rd29.up bd38
      refine EE.thenN ?_
      refine CC.no rfl ?_
      refine CC.skip ?_
      refine EE.thenN ?_
      refine CC.seq ?_
      refine CC.seq ?_
      refine CC.region ?_
      refine LL.val (R.move rfl rfl) rfl rfl rfl ?_
      refine LL.nilS ?_
      refine CC.no rfl ?_
      refine CC.skip ?_
      refine EE.thenN ?_
      refine CC.seq ?_
      refine CC.region ?_
      refine LL.val (R.loadZ rfl rfl rd4 rfl rfl (by first | assumption | exact List.length_replicate | exact plL_len _ | exact plOf_len _ | simp)) rfl rfl rfl ?_
      refine LL.call (R.call rfl rfl rfl) rfl rfl rfl (ofw_F ws _ (hsF _ q) hl hw hmw) ?_
      rintro e Wd41 ⟨rfl, bd40⟩
      refine ⟨_, rfl, ?_⟩
      have zbd40 := bd40.size
      replace bd38 := bd38.trans (bd40.mono bd38.size)
      replace bd26 := bd26.trans (bd40.mono bd26.size)
      replace bd19 := bd19.trans (bd40.mono bd19.size)
      replace bd10 := bd10.trans (bd40.mono bd10.size)
      replace bd6 := bd6.trans (bd40.mono bd6.size)
      replace rd4 := rd4.up bd40
      replace bd1 := bd1.trans (bd40.mono bd1.size)
      replace q := q.trans (bd40.mono q.size)
      replace rd13 := rd13.up bd40
      replace rd29 := rd29.up bd40
      refine LL.val (R.move rfl rfl) rfl rfl rfl ?_
      refine LL.val (R.extract rfl rfl rfl) rfl rfl rfl ?_
      refine LL.val (R.extract rfl rfl rfl) rfl rfl rfl ?_
      refine LL.val (R.assign rfl rfl) rfl rfl rfl ?_
      refine LL.val (R.assign rfl rfl) rfl rfl rfl ?_
      refine LL.nilS ?_
      refine CC.seq ?_
      refine CC.region ?_
      refine LL.val (R.loadZ rfl rfl rd4 rfl rfl (by first | assumption | exact List.length_replicate | exact plL_len _ | exact plOf_len _ | simp)) rfl rfl rfl ?_
      refine LL.call (R.call rfl rfl rfl) rfl rfl rfl (rdw_F ws _ hl hw hmw) ?_
      rintro e Wd44 ⟨rfl, bd43⟩
      refine ⟨_, rfl, ?_⟩
      have zbd43 := bd43.size
      replace bd40 := bd40.trans (bd43.mono bd40.size)
      replace bd38 := bd38.trans (bd43.mono bd38.size)
      replace bd26 := bd26.trans (bd43.mono bd26.size)
      replace bd19 := bd19.trans (bd43.mono bd19.size)
      replace bd10 := bd10.trans (bd43.mono bd10.size)
      replace bd6 := bd6.trans (bd43.mono bd6.size)
      replace rd4 := rd4.up bd43
      replace bd1 := bd1.trans (bd43.mono bd1.size)
      replace q := q.trans (bd43.mono q.size)
      replace rd13 := rd13.up bd43
      replace rd29 := rd29.up bd43
      refine LL.val (R.move rfl rfl) rfl rfl rfl ?_
      refine LL.val (R.extract rfl rfl rfl) rfl rfl rfl ?_
      refine LL.val (R.extract rfl rfl rfl) rfl rfl rfl ?_
      refine LL.val (R.assign rfl rfl) rfl rfl rfl ?_
      refine LL.val (R.assign rfl rfl) rfl rfl rfl ?_
      refine LL.nilS ?_
      refine CC.seq ?_
      refine CC.seq ?_
      refine CC.region ?_
      refine LL.val (R.move rfl rfl) rfl rfl rfl ?_
      refine LL.val (R.move rfl rfl) rfl rfl rfl ?_
      refine LL.call (R.call rfl rfl rfl) rfl rfl rfl (slist_N _) ?_
      rintro e Wd47 ⟨rfl, bd46⟩
      refine ⟨_, rfl, ?_⟩
      have zbd46 := bd46.size
      replace bd43 := bd43.trans (bd46.mono bd43.size)
      replace bd40 := bd40.trans (bd46.mono bd40.size)
      replace bd38 := bd38.trans (bd46.mono bd38.size)
      replace bd26 := bd26.trans (bd46.mono bd26.size)
      replace bd19 := bd19.trans (bd46.mono bd19.size)
      replace bd10 := bd10.trans (bd46.mono bd10.size)
      replace bd6 := bd6.trans (bd46.mono bd6.size)
      replace rd4 := rd4.up bd46
      replace bd1 := bd1.trans (bd46.mono bd1.size)
      replace q := q.trans (bd46.mono q.size)
      replace rd13 := rd13.up bd46
      replace rd29 := rd29.up bd46
      refine LL.val (R.not rfl rfl) rfl rfl rfl ?_
      refine LL.val (R.move rfl rfl) rfl rfl rfl ?_
      refine LL.val (R.move rfl rfl) rfl rfl rfl ?_
      refine LL.call (R.call rfl rfl rfl) rfl rfl rfl (num_any _ _) ?_
      rintro e W' ⟨rfl, rfl⟩
      refine ⟨_, rfl, ?_⟩
      refine LL.val (R.move rfl rfl) rfl rfl rfl ?_
      refine LL.val (R.neF rfl rfl rfl (by omega)) rfl rfl rfl ?_
      refine LL.val (R.pick rfl rfl rfl) rfl rfl rfl ?_
      refine LL.nilS ?_
      refine CC.no rfl ?_
      refine CC.skip ?_
      refine EE.thenN ?_
      refine CC.seq ?_
      refine CC.seq ?_
      refine CC.region ?_
      refine LL.val (R.move rfl rfl) rfl rfl rfl ?_
      refine LL.val (R.neT rfl rfl rfl (by omega)) rfl rfl rfl ?_
      refine LL.nilS ?_
      refine CC.yes rfl ?_
      refine CC.seq ?_
      refine CC.region ?_
      refine LL.call (R.call rfl rfl rfl) rfl rfl rfl (works_any _ (hsF _ q)) ?_
      rintro e Wd50 ⟨rfl, bd49⟩
      refine ⟨_, rfl, ?_⟩
      have zbd49 := bd49.size
      replace bd46 := bd46.trans (bd49.mono bd46.size)
      replace bd43 := bd43.trans (bd49.mono bd43.size)
      replace bd40 := bd40.trans (bd49.mono bd40.size)
      replace bd38 := bd38.trans (bd49.mono bd38.size)
      replace bd26 := bd26.trans (bd49.mono bd26.size)
      replace bd19 := bd19.trans (bd49.mono bd19.size)
      replace bd10 := bd10.trans (bd49.mono bd10.size)
      replace bd6 := bd6.trans (bd49.mono bd6.size)
      replace rd4 := rd4.up bd49
      replace bd1 := bd1.trans (bd49.mono bd1.size)
      replace q := q.trans (bd49.mono q.size)
      replace rd13 := rd13.up bd49
      replace rd29 := rd29.up bd49
      refine LL.val (R.assign rfl rfl) rfl rfl rfl ?_
      refine LL.nilS ?_
      refine CC.ret ?_
      refine EE.thenR ?_
      refine EE.ret _ rfl rfl ?_
      exact ⟨rfl, q⟩
theorem wordsx_walk (v : Value) (l : List Ex) (g : Nat → Int) (w : World) (hs : Start w) (hv : ReadsT eE 3 w v l) (hg : ∀ j, j < 10 → (Lit.int .u64 (g j)).wf = true) : Calls Tryd.prog 7 #[v, .agg ((List.range 10).map fun j => Value.int .u64 (g j)).toArray] w fun e w' => e = .returned (.bool true) ∧ Below w.heap.size w w' := by
  have := wordsx v l ((List.range 10).map g) w hs hv (by simp) (fun i z hz => by
    have hi : i < 10 := by have := (List.getElem?_eq_some_iff.1 hz).1; simpa using this
    rw [List.getElem?_map, List.getElem?_range hi] at hz
    have := Option.some.inj hz
    subst this
    exact wf_u64 (hg i hi))
  rw [show wdV ((List.range 10).map g) = .agg ((List.range 10).map fun j => Value.int .u64 (g j)).toArray by unfold wdV intsZ; rw [List.map_map]; rfl] at this
  exact this
end Go.Proofs.YtklfopclaonggaaDoor
