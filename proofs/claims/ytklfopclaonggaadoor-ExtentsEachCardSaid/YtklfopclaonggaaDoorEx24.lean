/- The document's extents: run, Blocks. -/
import Derived.Test.YtklfopclaonggaaDoorEx23
namespace Go.Proofs.YtklfopclaonggaaDoor
set_option linter.unusedVariables false
set_option linter.unusedSimpArgs false
open Go.RowKit Go.Shelf
theorem rof_T (l : List Ex) (v : Value) (w : World) (hv : ReadsT eE 3 w v l) (hlen : l.length ≤ 1048576) (h : vL l) : Calls Tryd.prog 10 #[v] w fun e w' => e = .returned (.tuple #[plV (plL l), .bool true]) ∧ Below w.heap.size w w' :=
  (rof_any l v w hv hlen).mono fun e w' ⟨⟨ms, b, he, hb, hm, _⟩, hw⟩ => ⟨by rw [he, hm h, hb.2 h], hw⟩
theorem rof_F (l : List Ex) (v : Value) (w : World) (hv : ReadsT eE 3 w v l) (hlen : l.length ≤ 1048576) (h : ¬vL l) : Calls Tryd.prog 10 #[v] w fun e w' => ∃ ms : List Int, e = .returned (.tuple #[plV ms, .bool false]) ∧ ms.length = 128 ∧ Below w.heap.size w w' :=
  (rof_any l v w hv hlen).mono fun e w' ⟨⟨ms, b, he, hb, hm, hl⟩, hw⟩ => ⟨ms, by rw [he]; cases b; rfl; exact absurd (hb.1 rfl) h, hl, hw⟩
set_option maxRecDepth 100000 in
set_option maxHeartbeats 8000000 in
theorem run_any (rs : List Bl) (d : Int) (v : Value) (w : World) (hv : ReadsT rE 2 w v rs) (hlen : rs.length ≤ 4096) (hl : ∀ r ∈ rs, litB r) (hd : 0 ≤ d ∧ d ≤ 4096) : Calls Tryd.prog 39 #[v, .int .i64 d] w fun e w' => ∃ v', e = .returned v' ∧ OwnsT rE 2 w' w.heap.size 64 v' (joinR rs d) ∧ Below w.heap.size w w' := by
  have q := Below.refl w.heap.size w
  have hvF : ∀ W, Below w.heap.size w W → ReadsT rE 2 W v rs := fun W hb => hv.up hb
  clear hv
  refine X.fn Tryd.func39 rfl (n := 44) rfl rfl ?_
  refine CC.seq ?_
  refine CC.region ?_
  refine LL.val (R.assign rfl rfl) rfl rfl rfl ?_
  refine LL.nilS ?_
  refine CC.seq ?_
  refine CC.region ?_
  refine LL.lit (e := 64) [] 0 rfl rfl (fun _ => by kernel_rfl) rfl rfl ?_
  intro W2 g3 eg3 r4 z5 b1
  replace q := q.trans (b1.mono q.size)
  refine LL.val (R.move rfl rfl) rfl rfl rfl ?_
  have yq := q.size
  refine LL.appendT2 rfl rfl rEnc ElRun (RowL.ownsT (base := w.heap.size) (ts := ([] : List Bl)) rEnc (by assumption) (by omega) (by simp)) (hvF _ q) (by simp [maxLen]; omega) (by simp; omega) (by omega) rfl rfl ?_
  intro v0 Wa o gra hva
  rw [List.nil_append] at o
  replace q := q.grown gra (by omega) (by rintro k ⟨⟩; show w.heap.size ≤ g3; omega)
  clear hvF hva r4
  have yq := q.size
  rcases snoc_cases rs with rfl | ⟨rs', a, rfl⟩
  · obtain ⟨av, cap, rfl, hcap⟩ := (o.reads rEnc).form (n := 0) rfl
    refine LL.val (R.assign rfl rfl) rfl rfl rfl ?_
    refine LL.nilS ?_
    refine CC.seq ?_
    refine CC.seq ?_
    refine CC.region ?_
    refine LL.val (R.move rfl rfl) rfl rfl rfl ?_
    refine LL.val (R.len rfl rfl rfl rfl) rfl rfl rfl ?_
    refine LL.val (R.subIz (z := -1) rfl rfl rfl (by decide) (by decide)) rfl rfl rfl ?_
    refine LL.val (R.assign rfl rfl) rfl rfl rfl ?_
    refine LL.nilS ?_
    refine CC.seq ?_
    refine CC.quietB (by kernel_rfl) (by kernel_rfl) (fun Wa2 ba1 za3 => ?_)
    replace q := q.trans (ba1.mono q.size)
    replace o := o.up ba1
    refine SS.val (R.move rfl rfl) rfl rfl ?_
    refine SS.val (R.geF rfl rfl rfl (by omega)) rfl rfl ?_
    refine SS.val (R.move rfl rfl) rfl rfl ?_
    refine SS.skip rfl rfl ?_
    refine SS.skip rfl rfl ?_
    refine SS.skip rfl rfl ?_
    refine SS.skip rfl rfl ?_
    refine SS.skip rfl rfl ?_
    refine SS.skip rfl rfl ?_
    refine SS.skip rfl rfl ?_
    refine SS.skip rfl rfl ?_
    refine SS.skip rfl rfl ?_
    refine SS.skip rfl rfl ?_
    refine SS.skip rfl rfl ?_
    refine SS.skip rfl rfl ?_
    refine SS.skip rfl rfl ?_
    refine SS.val (R.pick rfl rfl rfl) rfl rfl ?_
    refine SS.nilQ ?_
    refine EE.thenN ?_
    refine CC.no rfl ?_
    refine CC.skip ?_
    refine EE.thenN ?_
    refine CC.seq ?_
    refine CC.region ?_
    refine LL.val (R.move rfl rfl) rfl rfl rfl ?_
    refine LL.val (R.move rfl rfl) rfl rfl rfl ?_
    refine LL.val (R.buildV rfl rfl (v := .agg #[Value.int IntKind.i64 d, Value.int IntKind.i64 1]) (fun _ => by kernel_rfl)) rfl rfl rfl ?_
    refine LL.lit (e := 64) [Value.int IntKind.i64 d, Value.int IntKind.i64 1] 1 rfl rfl (fun _ => by kernel_rfl) rfl rfl ?_
    intro Wa5 ga6 ega6 ra7 za8 ba4
    replace ba1 := ba1.trans (ba4.mono ba1.size)
    replace q := q.trans (ba4.mono q.size)
    replace o := o.up ba4
    have yq := q.size
    refine LL.appendT2 rfl rfl rEnc ElRun o (RowL.readsT (ts := [(d, 1)]) rEnc (by assumption) 1 (by simp)) (by first | (simp [maxLen]; omega) | simp [maxLen]) (by first | (simp; omega) | simp) (by omega) rfl rfl ?_
    intro v' Wb oa grb hvb
    replace q := q.grown grb (by omega) (fun g hg => by have := own_ge o g hg; omega)
    refine LL.val (R.assign rfl rfl) rfl rfl rfl ?_
    refine LL.nilS ?_
    refine CC.ret ?_
    refine EE.ret _ rfl rfl ?_
    exact ⟨_, rfl, oa, q⟩
  have ha := hl a (by simp)
  rw [joinR_snoc]
  simp only [List.length_append, List.length_cons, List.length_nil] at hlen
  obtain ⟨N, hN⟩ : ∃ N, rs'.length = N := ⟨_, rfl⟩
  have hN1 : (rs' ++ [a]).length = N + 1 := by simp [hN]
  obtain ⟨g, cap, rfl, hbg, hgl, hnc⟩ := ownsT_form o hN1 (by omega)
  have has : (rs' ++ [a])[N]? = some a := by rw [← hN]; simp
  obtain ⟨_, _, e1, _, hcs⟩ := (o.reads rEnc).get rEnc (i := N) (t := a) has
  cases e1
  have c1 := hcs.at (j := 0) rfl
  have c2 := hcs.at (j := 1) rfl
  clear hcs
  by_cases hm : a.1 + a.2 = d
  · rw [if_pos hm]
    refine LL.val (R.assign rfl rfl) rfl rfl rfl ?_
    refine LL.nilS ?_
    refine CC.seq ?_
    refine CC.seq ?_
    refine CC.region ?_
    refine LL.val (R.move rfl rfl) rfl rfl rfl ?_
    refine LL.val (R.len rfl rfl rfl rfl) rfl rfl rfl ?_
    refine LL.val (R.subNc rfl rfl rfl rfl (by omega) (by omega)) rfl rfl rfl ?_
    refine LL.val (R.assign rfl rfl) rfl rfl rfl ?_
    refine LL.nilS ?_
    refine CC.seq ?_
    refine CC.quietB (by kernel_rfl) (by kernel_rfl) (fun Wc2 bc1 zc3 => ?_)
    replace q := q.trans (bc1.mono q.size)
    replace o := o.up bc1
    replace c1 := cell_up c1 bc1
    replace c2 := cell_up c2 bc1
    refine SS.val (R.move rfl rfl) rfl rfl ?_
    refine SS.val (R.geT rfl rfl rfl (by omega)) rfl rfl ?_
    refine SS.val (R.move rfl rfl) rfl rfl ?_
    refine SS.val (R.move rfl rfl) rfl rfl ?_
    refine SS.val (R.move rfl rfl) rfl rfl ?_
    refine SS.val (R.index rfl rfl rfl (I.ixS rfl (by omega))) rfl rfl ?_
    refine SS.val (R.field rfl rfl (I.fld rfl)) rfl rfl ?_
    refine SS.val (R.load rfl rfl (I.ld1 rfl (by assumption))) rfl rfl ?_
    refine SS.val (R.move rfl rfl) rfl rfl ?_
    refine SS.val (R.move rfl rfl) rfl rfl ?_
    refine SS.val (R.index rfl rfl rfl (I.ixS rfl (by omega))) rfl rfl ?_
    refine SS.val (R.field rfl rfl (I.fld rfl)) rfl rfl ?_
    refine SS.val (R.load rfl rfl (I.ld1 rfl (by assumption))) rfl rfl ?_
    refine SS.val (R.addI rfl rfl rfl (by omega)) rfl rfl ?_
    refine SS.val (R.move rfl rfl) rfl rfl ?_
    refine SS.val (R.eqT rfl rfl rfl (by omega)) rfl rfl ?_
    refine SS.val (R.pick rfl rfl rfl) rfl rfl ?_
    refine SS.nilQ ?_
    refine EE.thenN ?_
    refine CC.yes rfl ?_
    refine CC.seq ?_
    refine CC.region ?_
    refine LL.val (R.move rfl rfl) rfl rfl rfl ?_
    refine LL.val (R.move rfl rfl) rfl rfl rfl ?_
    refine LL.val (R.index rfl rfl rfl (I.ixS rfl (by omega))) rfl rfl rfl ?_
    refine LL.val (R.field rfl rfl (I.fld rfl)) rfl rfl rfl ?_
    refine LL.val (R.load rfl rfl (I.ld1 rfl (by assumption))) rfl rfl rfl ?_
    refine LL.val (R.addI rfl rfl rfl (by omega)) rfl rfl rfl ?_
    refine LL.val (R.index rfl rfl rfl (I.ixS rfl (by omega))) rfl rfl rfl ?_
    refine LL.val (R.field rfl rfl (I.fld rfl)) rfl rfl rfl ?_
    refine LL.storeF N 1 a (a.1, a.2 + 1) rfl rfl rfl rfl (by show 0 + (N + 1 - 1) * 2 + 1 = N * 2 + 1; omega) rEnc o has (by omega) rfl rfl rfl rfl rfl ?_
    intro W5 oa gra hsz
    rw [show (rs' ++ [a]).set N (a.1, a.2 + 1) = rs' ++ [(a.1, a.2 + 1)] by rw [List.set_append_right _ _ (by omega), hN]; simp] at oa
    replace q := q.grown gra q.size (by rintro k ⟨⟩; omega)
    refine LL.nilS ?_
    refine CC.seq ?_
    refine CC.region ?_
    refine LL.val (R.move rfl rfl) rfl rfl rfl ?_
    refine LL.val (R.assign rfl rfl) rfl rfl rfl ?_
    refine LL.nilS ?_
    refine CC.ret ?_
    refine EE.thenR ?_
    refine EE.ret _ rfl rfl ?_
    exact ⟨_, rfl, oa, q⟩
  · rw [if_neg hm]
    refine LL.val (R.assign rfl rfl) rfl rfl rfl ?_
    refine LL.nilS ?_
    refine CC.seq ?_
    refine CC.seq ?_
    refine CC.region ?_
    refine LL.val (R.move rfl rfl) rfl rfl rfl ?_
    refine LL.val (R.len rfl rfl rfl rfl) rfl rfl rfl ?_
    refine LL.val (R.subNc rfl rfl rfl rfl (by omega) (by omega)) rfl rfl rfl ?_
    refine LL.val (R.assign rfl rfl) rfl rfl rfl ?_
    refine LL.nilS ?_
    refine CC.seq ?_
    refine CC.quietB (by kernel_rfl) (by kernel_rfl) (fun We2 be1 ze3 => ?_)
    replace q := q.trans (be1.mono q.size)
    replace o := o.up be1
    replace c1 := cell_up c1 be1
    replace c2 := cell_up c2 be1
    refine SS.val (R.move rfl rfl) rfl rfl ?_
    refine SS.val (R.geT rfl rfl rfl (by omega)) rfl rfl ?_
    refine SS.val (R.move rfl rfl) rfl rfl ?_
    refine SS.val (R.move rfl rfl) rfl rfl ?_
    refine SS.val (R.move rfl rfl) rfl rfl ?_
    refine SS.val (R.index rfl rfl rfl (I.ixS rfl (by omega))) rfl rfl ?_
    refine SS.val (R.field rfl rfl (I.fld rfl)) rfl rfl ?_
    refine SS.val (R.load rfl rfl (I.ld1 rfl (by assumption))) rfl rfl ?_
    refine SS.val (R.move rfl rfl) rfl rfl ?_
    refine SS.val (R.move rfl rfl) rfl rfl ?_
    refine SS.val (R.index rfl rfl rfl (I.ixS rfl (by omega))) rfl rfl ?_
    refine SS.val (R.field rfl rfl (I.fld rfl)) rfl rfl ?_
    refine SS.val (R.load rfl rfl (I.ld1 rfl (by assumption))) rfl rfl ?_
    refine SS.val (R.addI rfl rfl rfl (by omega)) rfl rfl ?_
    refine SS.val (R.move rfl rfl) rfl rfl ?_
    refine SS.val (R.eqF rfl rfl rfl (by omega)) rfl rfl ?_
    refine SS.val (R.pick rfl rfl rfl) rfl rfl ?_
    refine SS.nilQ ?_
    refine EE.thenN ?_
    refine CC.no rfl ?_
    refine CC.skip ?_
    refine EE.thenN ?_
    refine CC.seq ?_
    refine CC.region ?_
    refine LL.val (R.move rfl rfl) rfl rfl rfl ?_
    refine LL.val (R.move rfl rfl) rfl rfl rfl ?_
    refine LL.val (R.buildV rfl rfl (v := .agg #[Value.int IntKind.i64 d, Value.int IntKind.i64 1]) (fun _ => by kernel_rfl)) rfl rfl rfl ?_
    refine LL.lit (e := 64) [Value.int IntKind.i64 d, Value.int IntKind.i64 1] 1 rfl rfl (fun _ => by kernel_rfl) rfl rfl ?_
    intro We5 ge6 ege6 re7 ze8 be4
    replace be1 := be1.trans (be4.mono be1.size)
    replace q := q.trans (be4.mono q.size)
    replace o := o.up be4
    replace c1 := cell_up c1 be4
    replace c2 := cell_up c2 be4
    have yq := q.size
    refine LL.appendT2 rfl rfl rEnc ElRun o (RowL.readsT (ts := [(d, 1)]) rEnc (by assumption) 1 (by simp)) (by first | (simp [maxLen]; omega) | simp [maxLen]) (by first | (simp; omega) | simp) (by omega) rfl rfl ?_
    intro v' Wb oa grb hvb
    replace q := q.grown grb (by omega) (fun g hg => by have := own_ge o g hg; omega)
    refine LL.val (R.assign rfl rfl) rfl rfl rfl ?_
    refine LL.nilS ?_
    refine CC.ret ?_
    refine EE.ret _ rfl rfl ?_
    exact ⟨_, rfl, oa, q⟩
set_option maxRecDepth 100000 in
set_option maxHeartbeats 8000000 in
theorem rblocks_any (l : List Ex) (v : Value) (w : World) (hv : ReadsT eE 3 w v l) (hlen : l.length ≤ 1048576) : Calls Tryd.prog 16 #[v] w fun e w' => e = .returned (.int .i64 ((blS (eL l)).length : Int)) ∧ Below w.heap.size w w' := by
  have q := Below.refl w.heap.size w
  by_cases h : vL l
  case neg =>
    rw [eL_F h]
    refine X.fn Tryd.func16 rfl (n := 26) rfl rfl ?_
    refine CC.seq ?_
    refine CC.region ?_
    refine LL.val (R.assign rfl rfl) rfl rfl rfl ?_
    refine LL.nilS ?_
    refine CC.seq ?_
    refine CC.region ?_
    refine LL.val (R.assign rfl rfl) rfl rfl rfl ?_
    refine LL.nilS ?_
    refine CC.seq ?_
    refine CC.region ?_
    refine LL.val (R.move rfl rfl) rfl rfl rfl ?_
    refine LL.call (R.call rfl rfl rfl) rfl rfl rfl (rof_F _ _ _ (by first | assumption | omega) (by first | assumption | omega) (by first | assumption | omega)) ?_
    rintro e W2 ⟨v3, rfl, k4, b1⟩
    refine ⟨_, rfl, ?_⟩
    have zb1 := b1.size
    replace hv := hv.up b1
    replace q := q.trans (b1.mono q.size)
    refine LL.val (R.move rfl rfl) rfl rfl rfl ?_
    refine LL.val (R.extract rfl rfl rfl) rfl rfl rfl ?_
    refine LL.val (R.extract rfl rfl rfl) rfl rfl rfl ?_
    refine LL.alloc (intsZ .i64 (List.replicate 128 0)) rfl rfl rfl rfl rfl ?_
    intro W7 g8 eg8 r9 z10 b6
    replace b1 := b1.trans (b6.mono b1.size)
    replace hv := hv.up b6
    replace q := q.trans (b6.mono q.size)
    refine LL.storeAZ rfl rfl rfl rfl (by first | assumption | exact List.length_replicate | exact plL_len _ | exact plOf_len _ | simp) r9 (by first | (rw [List.length_map]; exact (by first | assumption | exact List.length_replicate | exact plL_len _ | exact plOf_len _ | simp)) | simp) rfl rfl ?_
    intro W12 r13 b11 z14
    have hlb11 := r9.lt
    clear r9
    replace b6 := b6.grown b11 b6.size (by rintro k ⟨⟩; omega)
    replace b1 := b1.grown b11 b1.size (by rintro k ⟨⟩; omega)
    replace q := q.grown b11 q.size (by rintro k ⟨⟩; omega)
    have r9 := r13
    clear r13
    refine LL.val (R.assign rfl rfl) rfl rfl rfl ?_
    refine LL.nilS ?_
    refine CC.seq ?_
    refine CC.seq ?_
    refine CC.region ?_
    refine LL.val (R.assign rfl rfl) rfl rfl rfl ?_
    refine LL.nilS ?_
    refine CC.block ?_
    refine CC.loop (α := Unit) (fun _ => [(3, .int .i64 0), (5, .bool false), (6, .int .i64 0)]) (fun _ W => Below w.heap.size w W) (fun _ => 0) () ⟨rfl, rfl, rfl, trivial⟩ q ?_
    clear q hv
    rintro ⟨⟩ W q
    show CC none Tryd.prog _ 26 [] (sl [(3, .int .i64 0), (5, .bool false), (6, .int .i64 0)]) _ W
    refine CC.seq ?_
    refine CC.seq ?_
    refine CC.region ?_
    refine LL.val (R.move rfl rfl) rfl rfl rfl ?_
    refine LL.val (R.ltT rfl rfl rfl (by omega)) rfl rfl rfl ?_
    refine LL.val (R.move rfl rfl) rfl rfl rfl ?_
    refine LL.val (R.move rfl rfl) rfl rfl rfl ?_
    refine LL.val (R.pick rfl rfl rfl) rfl rfl rfl ?_
    refine LL.nilS ?_
    refine CC.no rfl ?_
    refine CC.exit ?_
    refine EE.thenX ?_
    refine EE.thenX ?_
    refine EE.inX ?_
    refine EE.thenN ?_
    refine CC.seq ?_
    refine CC.region ?_
    refine LL.val (R.move rfl rfl) rfl rfl rfl ?_
    refine LL.val (R.assign rfl rfl) rfl rfl rfl ?_
    refine LL.nilS ?_
    refine CC.ret ?_
    refine EE.ret _ rfl rfl ?_
    exact ⟨rfl, q⟩
  rw [eL_T h]
  refine X.fn Tryd.func16 rfl (n := 26) rfl rfl ?_
  refine CC.seq ?_
  refine CC.region ?_
  refine LL.val (R.assign rfl rfl) rfl rfl rfl ?_
  refine LL.nilS ?_
  refine CC.seq ?_
  refine CC.region ?_
  refine LL.val (R.assign rfl rfl) rfl rfl rfl ?_
  refine LL.nilS ?_
  refine CC.seq ?_
  refine CC.region ?_
  refine LL.val (R.move rfl rfl) rfl rfl rfl ?_
  refine LL.call (R.call rfl rfl rfl) rfl rfl rfl (rof_T _ _ _ (by first | assumption | omega) (by first | assumption | omega) (by first | assumption | omega)) ?_
  rintro e Wb2 ⟨rfl, bb1⟩
  refine ⟨_, rfl, ?_⟩
  have zbb1 := bb1.size
  replace hv := hv.up bb1
  replace q := q.trans (bb1.mono q.size)
  refine LL.val (R.move rfl rfl) rfl rfl rfl ?_
  refine LL.val (R.extract rfl rfl rfl) rfl rfl rfl ?_
  refine LL.val (R.extract rfl rfl rfl) rfl rfl rfl ?_
  refine LL.alloc (intsZ .i64 (List.replicate 128 0)) rfl rfl rfl rfl rfl ?_
  intro Wb5 gb6 egb6 rb7 zb8 bb4
  replace bb1 := bb1.trans (bb4.mono bb1.size)
  replace hv := hv.up bb4
  replace q := q.trans (bb4.mono q.size)
  refine LL.storeAZ rfl rfl rfl rfl (by first | assumption | exact List.length_replicate | exact plL_len _ | exact plOf_len _ | simp) rb7 (by first | (rw [List.length_map]; exact (by first | assumption | exact List.length_replicate | exact plL_len _ | exact plOf_len _ | simp)) | simp) rfl rfl ?_
  intro Wb10 rb11 bb9 zb12
  have hlbb9 := rb7.lt
  clear rb7
  replace bb4 := bb4.grown bb9 bb4.size (by rintro k ⟨⟩; omega)
  replace bb1 := bb1.grown bb9 bb1.size (by rintro k ⟨⟩; omega)
  replace q := q.grown bb9 q.size (by rintro k ⟨⟩; omega)
  have rb7 := rb11
  clear rb11
  refine LL.val (R.assign rfl rfl) rfl rfl rfl ?_
  refine LL.nilS ?_
  refine CC.seq ?_
  refine CC.seq ?_
  refine CC.region ?_
  refine LL.val (R.assign rfl rfl) rfl rfl rfl ?_
  refine LL.nilS ?_
  refine CC.block ?_
  refine CC.loop (α := Nat) (fun i => [(3, .int .i64 ((nzF (plL l) i).length : Int)), (4, .pointer (some ⟨gb6, 0, none⟩)), (5, .bool true), (6, .int .i64 (i : Int))]) (fun i W => i ≤ 128 ∧ Below w.heap.size w W ∧ RowL W gb6 25 (intsZ .i64 (plL l))) (fun i => 128 - i) 0 ⟨rfl, rfl, rfl, rfl, trivial⟩ ⟨by omega, q, rb7⟩ ?_
  clear q rb7 hv
  rintro i W ⟨hi, q, r⟩
  show CC none Tryd.prog _ 26 [] (sl [(3, .int .i64 ((nzF (plL l) i).length : Int)), (4, .pointer (some ⟨gb6, 0, none⟩)), (5, .bool true), (6, .int .i64 (i : Int))]) _ W
  have hpl := plL_len l
  have hln := nzF_len (plL l) i
  by_cases hlt : i < 128
  case neg =>
    obtain rfl : i = 128 := by omega
    rw [show nzF (plL l) 128 = blS l from vL_nz h] at hln ⊢
    refine CC.seq ?_
    refine CC.seq ?_
    refine CC.region ?_
    refine LL.val (R.move rfl rfl) rfl rfl rfl ?_
    refine LL.val (R.ltF rfl rfl rfl (by omega)) rfl rfl rfl ?_
    refine LL.val (R.move rfl rfl) rfl rfl rfl ?_
    refine LL.skip rfl rfl ?_
    refine LL.val (R.pick rfl rfl rfl) rfl rfl rfl ?_
    refine LL.nilS ?_
    refine CC.no rfl ?_
    refine CC.exit ?_
    refine EE.thenX ?_
    refine EE.thenX ?_
    refine EE.inX ?_
    refine EE.thenN ?_
    refine CC.seq ?_
    refine CC.region ?_
    refine LL.val (R.move rfl rfl) rfl rfl rfl ?_
    refine LL.val (R.assign rfl rfl) rfl rfl rfl ?_
    refine LL.nilS ?_
    refine CC.ret ?_
    refine EE.ret _ rfl rfl ?_
    exact ⟨rfl, q⟩
  obtain ⟨z, hz⟩ : ∃ z, (plL l)[i]? = some z := ⟨_, List.getElem?_eq_getElem (by omega)⟩
  have c1 : W.cell? ⟨gb6, 0 + i, none⟩ = some (.int .i64 z) := RowL.cell r (by rw [show 0 + i = i by omega]; simp [hz])
  have hs := congrArg List.length (nzF_succ (plL l) i)
  rw [hz, List.length_append] at hs
  simp only [Option.getD_some] at hs
  obtain ⟨n, hn⟩ : ∃ n, (nzF (plL l) i).length = n := ⟨_, rfl⟩
  rw [hn] at hs hln ⊢
  by_cases h0 : z = 0
  · rw [if_pos h0] at hs
    refine CC.seq ?_
    refine CC.seq ?_
    refine CC.region ?_
    refine LL.val (R.move rfl rfl) rfl rfl rfl ?_
    refine LL.val (R.ltT rfl rfl rfl (by omega)) rfl rfl rfl ?_
    refine LL.val (R.move rfl rfl) rfl rfl rfl ?_
    refine LL.val (R.move rfl rfl) rfl rfl rfl ?_
    refine LL.val (R.pick rfl rfl rfl) rfl rfl rfl ?_
    refine LL.nilS ?_
    refine CC.yes rfl ?_
    refine CC.skip ?_
    refine EE.thenN ?_
    refine CC.seq ?_
    refine CC.block ?_
    refine CC.seq ?_
    refine CC.region ?_
    refine LL.val (R.move rfl rfl) rfl rfl rfl ?_
    refine LL.val (R.index rfl rfl rfl (I.ixA1 rfl (by omega))) rfl rfl rfl ?_
    refine LL.val (R.load rfl rfl (I.ld1 rfl (by assumption))) rfl rfl rfl ?_
    refine LL.val (R.neF rfl rfl rfl (by omega)) rfl rfl rfl ?_
    refine LL.nilS ?_
    refine CC.no rfl ?_
    refine CC.skip ?_
    refine EE.inN ?_
    refine EE.thenN ?_
    refine CC.region ?_
    refine LL.val (R.move rfl rfl) rfl rfl rfl ?_
    refine LL.val (R.addNc rfl rfl rfl rfl (by omega)) rfl rfl rfl ?_
    refine LL.val (R.assign rfl rfl) rfl rfl rfl ?_
    refine LL.nil ?_
    exact EE.round (i + 1) ⟨by show _ = some (Value.int .i64 (((nzF (plL l) (i + 1)).length : Nat) : Int)); rw [hs]; rfl, rfl, rfl, rfl, trivial⟩ ⟨by omega, q, r⟩ (by omega)
  · rw [if_neg h0] at hs
    refine CC.seq ?_
    refine CC.seq ?_
    refine CC.region ?_
    refine LL.val (R.move rfl rfl) rfl rfl rfl ?_
    refine LL.val (R.ltT rfl rfl rfl (by omega)) rfl rfl rfl ?_
    refine LL.val (R.move rfl rfl) rfl rfl rfl ?_
    refine LL.val (R.move rfl rfl) rfl rfl rfl ?_
    refine LL.val (R.pick rfl rfl rfl) rfl rfl rfl ?_
    refine LL.nilS ?_
    refine CC.yes rfl ?_
    refine CC.skip ?_
    refine EE.thenN ?_
    refine CC.seq ?_
    refine CC.block ?_
    refine CC.seq ?_
    refine CC.region ?_
    refine LL.val (R.move rfl rfl) rfl rfl rfl ?_
    refine LL.val (R.index rfl rfl rfl (I.ixA1 rfl (by omega))) rfl rfl rfl ?_
    refine LL.val (R.load rfl rfl (I.ld1 rfl (by assumption))) rfl rfl rfl ?_
    refine LL.val (R.neT rfl rfl rfl (by omega)) rfl rfl rfl ?_
    refine LL.nilS ?_
    refine CC.yes rfl ?_
    refine CC.region ?_
    refine LL.val (R.move rfl rfl) rfl rfl rfl ?_
    refine LL.val (R.addNc rfl rfl rfl rfl (by omega)) rfl rfl rfl ?_
    refine LL.val (R.assign rfl rfl) rfl rfl rfl ?_
    refine LL.nil ?_
    refine EE.inN ?_
    refine EE.thenN ?_
    refine CC.region ?_
    refine LL.val (R.move rfl rfl) rfl rfl rfl ?_
    refine LL.val (R.addNc rfl rfl rfl rfl (by omega)) rfl rfl rfl ?_
    refine LL.val (R.assign rfl rfl) rfl rfl rfl ?_
    refine LL.nil ?_
    exact EE.round (i + 1) ⟨by show _ = some (Value.int .i64 (((nzF (plL l) (i + 1)).length : Nat) : Int)); rw [hs]; rfl, rfl, rfl, rfl, trivial⟩ ⟨by omega, q, r⟩ (by omega)
set_option maxRecDepth 100000 in
set_option maxHeartbeats 8000000 in
theorem lent_any (l : List Ex) (v : Value) (w : World) (hv : ReadsT eE 3 w v l) (hlen : l.length ≤ 1048576) : Calls Tryd.prog 12 #[v] w fun e w' => ∃ g cap, e = .returned (.slice (some ⟨g, 0, none⟩) l.length cap) ∧ ReadsT eE 3 w' (.slice (some ⟨g, 0, none⟩) (l.length + 1) cap) (l ++ [(77, 0, 0)]) ∧ l.length + 1 ≤ cap ∧ w.heap.size ≤ g ∧ Below w.heap.size w w' := by
  have q := Below.refl w.heap.size w
  obtain ⟨N, hN⟩ : ∃ N, l.length = N := ⟨_, rfl⟩
  obtain ⟨a, cap, rfl, hcap⟩ := hv.form hN
  rw [hN] at hlen ⊢
  refine X.fn Tryd.func12 rfl (n := 12) rfl rfl ?_
  refine CC.seq ?_
  refine CC.region ?_
  refine LL.val (R.assign rfl rfl) rfl rfl rfl ?_
  refine LL.nilS ?_
  refine CC.seq ?_
  refine CC.region ?_
  refine LL.lit (e := 41) [] 0 rfl rfl (fun _ => by kernel_rfl) rfl rfl ?_
  intro W2 g3 eg3 r4 z5 b1
  replace q := q.trans (b1.mono q.size)
  replace hv := hv.up b1
  refine LL.val (R.move rfl rfl) rfl rfl rfl ?_
  have yq := q.size
  refine LL.appendT2 rfl rfl eEnc ElEx (RowL.ownsT (base := w.heap.size) (ts := ([] : List Ex)) eEnc (by assumption) (by omega) (by simp)) hv (by simp [maxLen]; omega) (by simp; omega) (by omega) rfl rfl ?_
  intro v0 Wa o gra hva
  rw [List.nil_append] at o
  replace q := q.grown gra (by omega) (by rintro k ⟨⟩; show w.heap.size ≤ g3; omega)
  clear hv r4 hva
  have yq := q.size
  refine LL.val (R.buildV rfl rfl (v := .agg #[Value.int IntKind.i64 77, Value.int IntKind.i64 0, Value.int IntKind.i64 0]) (fun _ => by kernel_rfl)) rfl rfl rfl ?_
  refine LL.lit (e := 41) [Value.int IntKind.i64 77, Value.int IntKind.i64 0, Value.int IntKind.i64 0] 1 rfl rfl (fun _ => by kernel_rfl) rfl rfl ?_
  intro Wa2 ga3 ega3 ra4 za5 ba1
  replace o := o.up ba1
  replace q := q.trans (ba1.mono q.size)
  have yq := q.size
  refine LL.appendT2 rfl rfl eEnc ElEx o (RowL.readsT (ts := [((77 : Int), (0 : Int), (0 : Int))]) eEnc (by assumption) 1 (by simp)) (by simp [maxLen]; omega) (by simp; omega) (by omega) rfl rfl ?_
  intro v1 Wb o1 grb hvb
  replace q := q.grown grb (by omega) (fun g hg => by have := own_ge o g hg; omega)
  obtain ⟨g, cp, rfl, hbg, hgl, hnc⟩ := ownsT_form (N := N + 1) o1 (by simp [hN]) (by omega)
  have hr1 := o1.reads eEnc
  refine LL.val (R.move rfl rfl) rfl rfl rfl ?_
  refine LL.val (R.len rfl rfl rfl rfl) rfl rfl rfl ?_
  refine LL.val (R.slice rfl rfl rfl rfl rfl (I.slTo rfl (by omega))) rfl rfl rfl ?_
  refine LL.val (R.assign rfl rfl) rfl rfl rfl ?_
  refine LL.nilS ?_
  refine CC.ret ?_
  refine EE.ret _ rfl rfl ?_
  exact ⟨g, cp, rfl, hr1, hnc, by omega, q⟩
end Go.Proofs.YtklfopclaonggaaDoor
