/- The document's extents: Cut, Put. -/
import Derived.Test.YtklfopclaonggaaDoorEx24
namespace Go.Proofs.YtklfopclaonggaaDoor
set_option linter.unusedVariables false
set_option linter.unusedSimpArgs false
open Go.RowKit Go.Shelf
theorem ok_noP {l : List Ex} {f d k i : Nat} (h : okPut l ((f : Int), (d : Int), (k : Int))) (hi : i < k) : ¬hasP (plL l) ((d + i : Nat) : Int) := fun ⟨j, hj⟩ => by
  obtain ⟨hv, hm, ha⟩ := h
  unfold mayE at hm
  simp only at hm
  have hb : ((j : Int), ((d + i : Nat) : Int)) ∈ blS l := by rw [← vL_nz hv]; exact (nz_mem (plL_len l)).2 ⟨j, hj, by simp only; omega, rfl⟩
  obtain ⟨y, hy, hb⟩ := List.mem_flatMap.1 hb
  obtain ⟨m, hm2, e⟩ := mem_blE.1 hb
  have e2 := congrArg Prod.snd e
  simp only at e2
  have := ha y hy
  unfold apartE at this
  simp only at this
  omega
theorem ok_ofP {l : List Ex} {f d k : Nat} (hv : vL l) (hm : mayE ((f : Int), (d : Int), (k : Int))) (h : ∀ i, i < k → ¬hasP (plL l) ((d + i : Nat) : Int)) : okPut l ((f : Int), (d : Int), (k : Int)) := by
  refine ⟨hv, hm, fun y hy => ?_⟩
  have hmy := hv.2.1 y hy
  unfold mayE at hm hmy
  simp only at hm
  unfold apartE
  simp only
  by_cases h1 : y.2.1 + y.2.2 ≤ (d : Int)
  · exact .inl h1
  by_cases h2 : (d : Int) + (k : Int) ≤ y.2.1
  · exact .inr h2
  exfalso
  -- a block that is in both
  have key : ∀ z : Int, y.2.1 ≤ z → z < y.2.1 + y.2.2 → (d : Int) ≤ z → z < (d : Int) + (k : Int) → False := fun z a1 a2 a3 a4 => by
    have hb : (y.1 + (((z - y.2.1).toNat : Nat) : Int), y.2.1 + (((z - y.2.1).toNat : Nat) : Int)) ∈ nz (plL l) := by
      rw [vL_nz hv]
      exact List.mem_flatMap.2 ⟨y, hy, mem_blE.2 ⟨_, by omega, rfl⟩⟩
    obtain ⟨j, h3, _⟩ := (nz_mem (plL_len l)).1 hb
    refine h (z - (d : Int)).toNat (by omega) ⟨j, ?_⟩
    rw [h3]
    simp only
    congr 1
    omega
  by_cases h3 : y.2.1 ≤ (d : Int)
  · exact key d h3 (by omega) (by omega) (by omega)
  · exact key y.2.1 (by omega) (by omega) (by omega) (by omega)
theorem rlist_f (p : List Int) (n : Nat) (w : World) (hp : smP p) (hn : (gat (nz p)).length = n) : Calls Tryd.prog 31 #[plV p] w fun e w' => ∃ a cap, e = .returned (.slice a n cap) ∧ ReadsT eE 3 w' (.slice a n cap) (gat (nz p)) ∧ Below w.heap.size w w' :=
  (rlist_any p w hp).mono fun e w' ⟨v, he, o, b⟩ => by
    have hr := o.reads eEnc
    obtain ⟨a, cap, rfl, hc⟩ := hr.form hn
    exact ⟨a, cap, he, hr, b⟩
set_option maxRecDepth 100000 in
set_option maxHeartbeats 8000000 in
theorem rcut_bad (l : List Ex) (b : Int) (v : Value) (w : World) (hv : ReadsT eE 3 w v l) (hlen : l.length ≤ 1048576) (h : ¬vL l ∨ b < 0 ∨ 128 < b) : Calls Tryd.prog 23 #[v, .int .i64 b] w fun e w' => e = .returned (.tuple #[.slice none 0 0, .slice none 0 0, .int .i64 2]) ∧ Below w.heap.size w w' := by
  have q := Below.refl w.heap.size w
  by_cases hl : vL l
  case neg =>
    refine X.fn Tryd.func23 rfl (n := 45) rfl rfl ?_
    refine CC.seq ?_
    refine CC.region ?_
    refine LL.val (R.assign rfl rfl) rfl rfl rfl ?_
    refine LL.val (R.assign rfl rfl) rfl rfl rfl ?_
    refine LL.val (R.assign rfl rfl) rfl rfl rfl ?_
    refine LL.nilS ?_
    refine CC.seq ?_
    refine CC.region ?_
    refine LL.val (R.move rfl rfl) rfl rfl rfl ?_
    refine LL.call (R.call rfl rfl rfl) rfl rfl rfl (rof_F _ _ _ (by first | assumption | omega) (by first | assumption | omega) (by first | assumption | omega)) ?_
    rintro e W2 ⟨v3, rfl, k4, b1⟩
    refine ⟨_, rfl, ?_⟩
    have zb1 := b1.size
    replace hv := hv.up b1
    replace q := q.trans (b1.mono q.size)
    refine LL.val (R.move rfl rfl) rfl rfl rfl ?_
    refine LL.val (R.extract rfl rfl rfl) rfl rfl rfl ?_
    refine LL.val (R.extract rfl rfl rfl) rfl rfl rfl ?_
    refine LL.alloc (intsZ .i64 (List.replicate 128 0)) rfl rfl rfl rfl rfl ?_
    intro W7 g8 eg8 r9 z10 b6
    replace b1 := b1.trans (b6.mono b1.size)
    replace hv := hv.up b6
    replace q := q.trans (b6.mono q.size)
    refine LL.storeAZ rfl rfl rfl rfl (by first | assumption | exact List.length_replicate | exact plL_len _ | exact plOf_len _ | simp) r9 (by first | (rw [List.length_map]; exact (by first | assumption | exact List.length_replicate | exact plL_len _ | exact plOf_len _ | simp)) | simp) rfl rfl ?_
    intro W12 r13 b11 z14
    have hlb11 := r9.lt
    clear r9
    replace b6 := b6.grown b11 b6.size (by rintro k ⟨⟩; omega)
    replace b1 := b1.grown b11 b1.size (by rintro k ⟨⟩; omega)
    replace q := q.grown b11 q.size (by rintro k ⟨⟩; omega)
    have r9 := r13
    clear r13
    refine LL.val (R.assign rfl rfl) rfl rfl rfl ?_
    refine LL.nilS ?_
    refine CC.seq ?_
    refine CC.seq ?_
    refine CC.region ?_
    refine LL.val (R.move rfl rfl) rfl rfl rfl ?_
    refine LL.val (R.not rfl rfl) rfl rfl rfl ?_
    refine LL.val (R.move rfl rfl) rfl rfl rfl ?_
    refine LL.skip rfl rfl ?_
    refine LL.skip rfl rfl ?_
    refine LL.val (R.pick rfl rfl rfl) rfl rfl rfl ?_
    refine LL.val (R.move rfl rfl) rfl rfl rfl ?_
    refine LL.skip rfl rfl ?_
    refine LL.skip rfl rfl ?_
    refine LL.val (R.pick rfl rfl rfl) rfl rfl rfl ?_
    refine LL.nilS ?_
    refine CC.yes rfl ?_
    refine CC.seq ?_
    refine CC.region ?_
    refine LL.val (R.assign rfl rfl) rfl rfl rfl ?_
    refine LL.val (R.assign rfl rfl) rfl rfl rfl ?_
    refine LL.val (R.assign rfl rfl) rfl rfl rfl ?_
    refine LL.nilS ?_
    refine CC.ret ?_
    refine EE.thenR ?_
    refine EE.ret _ rfl rfl ?_
    exact ⟨rfl, q⟩
  by_cases h1 : b < 0
  · refine X.fn Tryd.func23 rfl (n := 45) rfl rfl ?_
    refine CC.seq ?_
    refine CC.region ?_
    refine LL.val (R.assign rfl rfl) rfl rfl rfl ?_
    refine LL.val (R.assign rfl rfl) rfl rfl rfl ?_
    refine LL.val (R.assign rfl rfl) rfl rfl rfl ?_
    refine LL.nilS ?_
    refine CC.seq ?_
    refine CC.region ?_
    refine LL.val (R.move rfl rfl) rfl rfl rfl ?_
    refine LL.call (R.call rfl rfl rfl) rfl rfl rfl (rof_T _ _ _ (by first | assumption | omega) (by first | assumption | omega) (by first | assumption | omega)) ?_
    rintro e Wa2 ⟨rfl, ba1⟩
    refine ⟨_, rfl, ?_⟩
    have zba1 := ba1.size
    replace hv := hv.up ba1
    replace q := q.trans (ba1.mono q.size)
    refine LL.val (R.move rfl rfl) rfl rfl rfl ?_
    refine LL.val (R.extract rfl rfl rfl) rfl rfl rfl ?_
    refine LL.val (R.extract rfl rfl rfl) rfl rfl rfl ?_
    refine LL.alloc (intsZ .i64 (List.replicate 128 0)) rfl rfl rfl rfl rfl ?_
    intro Wa5 ga6 ega6 ra7 za8 ba4
    replace ba1 := ba1.trans (ba4.mono ba1.size)
    replace hv := hv.up ba4
    replace q := q.trans (ba4.mono q.size)
    refine LL.storeAZ rfl rfl rfl rfl (by first | assumption | exact List.length_replicate | exact plL_len _ | exact plOf_len _ | simp) ra7 (by first | (rw [List.length_map]; exact (by first | assumption | exact List.length_replicate | exact plL_len _ | exact plOf_len _ | simp)) | simp) rfl rfl ?_
    intro Wa10 ra11 ba9 za12
    have hlba9 := ra7.lt
    clear ra7
    replace ba4 := ba4.grown ba9 ba4.size (by rintro k ⟨⟩; omega)
    replace ba1 := ba1.grown ba9 ba1.size (by rintro k ⟨⟩; omega)
    replace q := q.grown ba9 q.size (by rintro k ⟨⟩; omega)
    have ra7 := ra11
    clear ra11
    refine LL.val (R.assign rfl rfl) rfl rfl rfl ?_
    refine LL.nilS ?_
    refine CC.seq ?_
    refine CC.seq ?_
    refine CC.region ?_
    refine LL.val (R.move rfl rfl) rfl rfl rfl ?_
    refine LL.val (R.not rfl rfl) rfl rfl rfl ?_
    refine LL.val (R.move rfl rfl) rfl rfl rfl ?_
    refine LL.val (R.move rfl rfl) rfl rfl rfl ?_
    refine LL.val (R.ltT rfl rfl rfl (by omega)) rfl rfl rfl ?_
    refine LL.val (R.pick rfl rfl rfl) rfl rfl rfl ?_
    refine LL.val (R.move rfl rfl) rfl rfl rfl ?_
    refine LL.skip rfl rfl ?_
    refine LL.skip rfl rfl ?_
    refine LL.val (R.pick rfl rfl rfl) rfl rfl rfl ?_
    refine LL.nilS ?_
    refine CC.yes rfl ?_
    refine CC.seq ?_
    refine CC.region ?_
    refine LL.val (R.assign rfl rfl) rfl rfl rfl ?_
    refine LL.val (R.assign rfl rfl) rfl rfl rfl ?_
    refine LL.val (R.assign rfl rfl) rfl rfl rfl ?_
    refine LL.nilS ?_
    refine CC.ret ?_
    refine EE.thenR ?_
    refine EE.ret _ rfl rfl ?_
    exact ⟨rfl, q⟩
  · have h2 : 128 < b := by
      rcases h with h | h | h
      · exact absurd hl h
      · exact absurd h h1
      · exact h
    refine X.fn Tryd.func23 rfl (n := 45) rfl rfl ?_
    refine CC.seq ?_
    refine CC.region ?_
    refine LL.val (R.assign rfl rfl) rfl rfl rfl ?_
    refine LL.val (R.assign rfl rfl) rfl rfl rfl ?_
    refine LL.val (R.assign rfl rfl) rfl rfl rfl ?_
    refine LL.nilS ?_
    refine CC.seq ?_
    refine CC.region ?_
    refine LL.val (R.move rfl rfl) rfl rfl rfl ?_
    refine LL.call (R.call rfl rfl rfl) rfl rfl rfl (rof_T _ _ _ (by first | assumption | omega) (by first | assumption | omega) (by first | assumption | omega)) ?_
    rintro e Wb2 ⟨rfl, bb1⟩
    refine ⟨_, rfl, ?_⟩
    have zbb1 := bb1.size
    replace hv := hv.up bb1
    replace q := q.trans (bb1.mono q.size)
    refine LL.val (R.move rfl rfl) rfl rfl rfl ?_
    refine LL.val (R.extract rfl rfl rfl) rfl rfl rfl ?_
    refine LL.val (R.extract rfl rfl rfl) rfl rfl rfl ?_
    refine LL.alloc (intsZ .i64 (List.replicate 128 0)) rfl rfl rfl rfl rfl ?_
    intro Wb5 gb6 egb6 rb7 zb8 bb4
    replace bb1 := bb1.trans (bb4.mono bb1.size)
    replace hv := hv.up bb4
    replace q := q.trans (bb4.mono q.size)
    refine LL.storeAZ rfl rfl rfl rfl (by first | assumption | exact List.length_replicate | exact plL_len _ | exact plOf_len _ | simp) rb7 (by first | (rw [List.length_map]; exact (by first | assumption | exact List.length_replicate | exact plL_len _ | exact plOf_len _ | simp)) | simp) rfl rfl ?_
    intro Wb10 rb11 bb9 zb12
    have hlbb9 := rb7.lt
    clear rb7
    replace bb4 := bb4.grown bb9 bb4.size (by rintro k ⟨⟩; omega)
    replace bb1 := bb1.grown bb9 bb1.size (by rintro k ⟨⟩; omega)
    replace q := q.grown bb9 q.size (by rintro k ⟨⟩; omega)
    have rb7 := rb11
    clear rb11
    refine LL.val (R.assign rfl rfl) rfl rfl rfl ?_
    refine LL.nilS ?_
    refine CC.seq ?_
    refine CC.seq ?_
    refine CC.region ?_
    refine LL.val (R.move rfl rfl) rfl rfl rfl ?_
    refine LL.val (R.not rfl rfl) rfl rfl rfl ?_
    refine LL.val (R.move rfl rfl) rfl rfl rfl ?_
    refine LL.val (R.move rfl rfl) rfl rfl rfl ?_
    refine LL.val (R.ltF rfl rfl rfl (by omega)) rfl rfl rfl ?_
    refine LL.val (R.pick rfl rfl rfl) rfl rfl rfl ?_
    refine LL.val (R.move rfl rfl) rfl rfl rfl ?_
    refine LL.val (R.move rfl rfl) rfl rfl rfl ?_
    refine LL.val (R.gtT rfl rfl rfl (by omega)) rfl rfl rfl ?_
    refine LL.val (R.pick rfl rfl rfl) rfl rfl rfl ?_
    refine LL.nilS ?_
    refine CC.yes rfl ?_
    refine CC.seq ?_
    refine CC.region ?_
    refine LL.val (R.assign rfl rfl) rfl rfl rfl ?_
    refine LL.val (R.assign rfl rfl) rfl rfl rfl ?_
    refine LL.val (R.assign rfl rfl) rfl rfl rfl ?_
    refine LL.nilS ?_
    refine CC.ret ?_
    refine EE.thenR ?_
    refine EE.ret _ rfl rfl ?_
    exact ⟨rfl, q⟩
set_option maxRecDepth 100000 in
set_option maxHeartbeats 8000000 in
theorem rcut_any (l : List Ex) (f : Nat) (v : Value) (w : World) (hv : ReadsT eE 3 w v l) (hl : vL l) (hf : f ≤ 128) : Calls Tryd.prog 23 #[v, .int .i64 (f : Int)] w fun e w' => ∃ v1 v2, e = .returned (.tuple #[v1, v2, .int .i64 0]) ∧ ReadsT eE 3 w' v1 (gat (nz (zerN (plL l) f (128 - f)))) ∧ ReadsT rE 2 w' v2 (gatR (dvF (plL l) f (128 - f))) ∧ Below w.heap.size w w' := by
  have q := Below.refl w.heap.size w
  have hlen : l.length ≤ 1048576 := by have := hl.1; omega
  have hsm := (vL_okP hl).small
  have hpo := cut_okP (vL_okP hl) (f := f) (k := 128 - f) (by omega)
  have hsp := hpo.small
  have hpl := plL_len l
  obtain ⟨n, hn⟩ : ∃ n, (gat (nz (zerN (plL l) f (128 - f)))).length = n := ⟨_, rfl⟩
  refine X.fn Tryd.func23 rfl (n := 45) rfl rfl ?_
  refine CC.seq ?_
  refine CC.region ?_
  refine LL.val (R.assign rfl rfl) rfl rfl rfl ?_
  refine LL.val (R.assign rfl rfl) rfl rfl rfl ?_
  refine LL.val (R.assign rfl rfl) rfl rfl rfl ?_
  refine LL.nilS ?_
  refine CC.seq ?_
  refine CC.region ?_
  refine LL.val (R.move rfl rfl) rfl rfl rfl ?_
  refine LL.call (R.call rfl rfl rfl) rfl rfl rfl (rof_T _ _ _ (by first | assumption | omega) (by first | assumption | omega) (by first | assumption | omega)) ?_
  rintro e W2 ⟨rfl, b1⟩
  refine ⟨_, rfl, ?_⟩
  have zb1 := b1.size
  replace hv := hv.up b1
  replace q := q.trans (b1.mono q.size)
  refine LL.val (R.move rfl rfl) rfl rfl rfl ?_
  refine LL.val (R.extract rfl rfl rfl) rfl rfl rfl ?_
  refine LL.val (R.extract rfl rfl rfl) rfl rfl rfl ?_
  refine LL.alloc (intsZ .i64 (List.replicate 128 0)) rfl rfl rfl rfl rfl ?_
  intro W5 g6 eg6 r7 z8 b4
  replace b1 := b1.trans (b4.mono b1.size)
  replace hv := hv.up b4
  replace q := q.trans (b4.mono q.size)
  refine LL.storeAZ rfl rfl rfl rfl (by first | assumption | exact List.length_replicate | exact plL_len _ | exact plOf_len _ | simp) r7 (by first | (rw [List.length_map]; exact (by first | assumption | exact List.length_replicate | exact plL_len _ | exact plOf_len _ | simp)) | simp) rfl rfl ?_
  intro W10 r11 b9 z12
  have hlb9 := r7.lt
  clear r7
  replace b4 := b4.grown b9 b4.size (by rintro k ⟨⟩; omega)
  replace b1 := b1.grown b9 b1.size (by rintro k ⟨⟩; omega)
  replace q := q.grown b9 q.size (by rintro k ⟨⟩; omega)
  have r7 := r11
  clear r11
  refine LL.val (R.assign rfl rfl) rfl rfl rfl ?_
  refine LL.nilS ?_
  refine CC.seq ?_
  refine CC.seq ?_
  refine CC.region ?_
  refine LL.val (R.move rfl rfl) rfl rfl rfl ?_
  refine LL.val (R.not rfl rfl) rfl rfl rfl ?_
  refine LL.val (R.move rfl rfl) rfl rfl rfl ?_
  refine LL.val (R.move rfl rfl) rfl rfl rfl ?_
  refine LL.val (R.ltF rfl rfl rfl (by omega)) rfl rfl rfl ?_
  refine LL.val (R.pick rfl rfl rfl) rfl rfl rfl ?_
  refine LL.val (R.move rfl rfl) rfl rfl rfl ?_
  refine LL.val (R.move rfl rfl) rfl rfl rfl ?_
  refine LL.val (R.gtF rfl rfl rfl (by omega)) rfl rfl rfl ?_
  refine LL.val (R.pick rfl rfl rfl) rfl rfl rfl ?_
  refine LL.nilS ?_
  refine CC.no rfl ?_
  refine CC.skip ?_
  refine EE.thenN ?_
  refine CC.seq ?_
  refine CC.region ?_
  refine LL.val (R.assign rfl rfl) rfl rfl rfl ?_
  refine LL.nilS ?_
  refine CC.seq ?_
  refine CC.seq ?_
  refine CC.region ?_
  refine LL.val (R.move rfl rfl) rfl rfl rfl ?_
  refine LL.val (R.assign rfl rfl) rfl rfl rfl ?_
  refine LL.nilS ?_
  refine CC.block ?_
  have lg := r7.lt
  have yq := q.size
  refine CC.loop (α := Nat × Value) (fun s => [(7, .pointer (some ⟨g6, 0, none⟩)), (9, s.2), (10, .int .i64 ((f + s.1 : Nat) : Int))]) (fun s W => s.1 ≤ 128 - f ∧ Below w.heap.size w W ∧ g6 + 1 ≤ W.heap.size ∧ RowL W g6 25 (intsZ .i64 (zerN (plL l) f s.1)) ∧ OwnsT rE 2 W (g6 + 1) 64 s.2 (gatR (dvF (plL l) f s.1))) (fun s => 128 - f - s.1) (0, .slice none 0 0) ⟨rfl, rfl, rfl, trivial⟩ ⟨by show 0 ≤ 128 - f; omega, q, by omega, r7, OwnsT.none _ _ _⟩ ?_
  have hwg : w.heap.size ≤ g6 := by omega
  clear q r7 hv
  rintro ⟨j, v'⟩ W ⟨hj, q, yB, r7, o⟩
  simp only at hj o yB r7
  show CC none Tryd.prog _ 45 [] (sl [(7, .pointer (some ⟨g6, 0, none⟩)), (9, v'), (10, .int .i64 ((f + j : Nat) : Int))]) _ W
  have yq := q.size
  have hzl : (zerN (plL l) f j).length = 128 := by rw [zerN_len]; exact hpl
  by_cases hjk : j < 128 - f
  case neg =>
    obtain rfl : j = 128 - f := by omega
    have hr := o.reads rEnc
    clear o
    refine CC.seq ?_
    refine CC.seq ?_
    refine CC.region ?_
    refine LL.val (R.move rfl rfl) rfl rfl rfl ?_
    refine LL.val (R.ltF rfl rfl rfl (by omega)) rfl rfl rfl ?_
    refine LL.nilS ?_
    refine CC.no rfl ?_
    refine CC.exit ?_
    refine EE.thenX ?_
    refine EE.thenX ?_
    refine EE.inX ?_
    refine EE.thenN ?_
    refine CC.seq ?_
    refine CC.region ?_
    refine LL.val (R.loadZ rfl rfl r7 rfl rfl (by first | assumption | exact List.length_replicate | exact plL_len _ | exact plOf_len _ | simp)) rfl rfl rfl ?_
    refine LL.call (R.call rfl rfl rfl) rfl rfl rfl (rlist_f _ _ _ (by first | assumption | omega) (by first | assumption | omega)) ?_
    rintro e Wa2 ⟨va5, ga4, rfl, ha3, ba1⟩
    refine ⟨_, rfl, ?_⟩
    have zba1 := ba1.size
    replace q := q.trans (ba1.mono q.size)
    replace r7 := r7.up ba1
    replace hr := hr.up ba1
    refine LL.val (R.move rfl rfl) rfl rfl rfl ?_
    refine LL.val (R.assign rfl rfl) rfl rfl rfl ?_
    refine LL.val (R.assign rfl rfl) rfl rfl rfl ?_
    refine LL.val (R.assign rfl rfl) rfl rfl rfl ?_
    refine LL.nilS ?_
    refine CC.ret ?_
    refine EE.ret _ rfl rfl ?_
    exact ⟨_, _, rfl, by assumption, by assumption, q⟩
  obtain ⟨z, hz⟩ : ∃ z, (plL l)[f + j]? = some z := ⟨_, List.getElem?_eq_getElem (by omega)⟩
  have hzz : (zerN (plL l) f j)[f + j]? = some z := by rw [zerN_at (by omega), if_neg (by omega)]; exact hz
  have hzb := hsm.2 _ z hz
  have c1 : W.cell? ⟨g6, 0 + (f + j), none⟩ = some (.int .i64 z) := RowL.cell r7 (by rw [show 0 + (f + j) = f + j by omega]; simp [hzz])
  have hd : dvF (plL l) f (j + 1) = dvF (plL l) f j ++ if z = 0 then [] else [z] := by show dvF (plL l) f j ++ _ = _; rw [hz]; rfl
  by_cases h0 : z = 0
  · rw [if_pos h0, List.append_nil] at hd
    refine CC.seq ?_
    refine CC.seq ?_
    refine CC.region ?_
    refine LL.val (R.move rfl rfl) rfl rfl rfl ?_
    refine LL.val (R.ltT rfl rfl rfl (by omega)) rfl rfl rfl ?_
    refine LL.nilS ?_
    refine CC.yes rfl ?_
    refine CC.skip ?_
    refine EE.thenN ?_
    refine CC.seq ?_
    refine CC.block ?_
    refine CC.seq ?_
    refine CC.seq ?_
    refine CC.region ?_
    refine LL.val (R.move rfl rfl) rfl rfl rfl ?_
    refine LL.val (R.index rfl rfl rfl (I.ixA1 rfl (by omega))) rfl rfl rfl ?_
    refine LL.val (R.load rfl rfl (I.ld1 rfl (by assumption))) rfl rfl rfl ?_
    refine LL.val (R.neF rfl rfl rfl (by omega)) rfl rfl rfl ?_
    refine LL.nilS ?_
    refine CC.no rfl ?_
    refine CC.skip ?_
    refine EE.thenN ?_
    refine CC.region ?_
    refine LL.val (R.move rfl rfl) rfl rfl rfl ?_
    refine LL.val (R.index rfl rfl rfl (I.ixA1 rfl (by omega))) rfl rfl rfl ?_
    refine LL.storeZ rfl rfl (Nat.zero_add _) rfl rfl r7 (by first | omega | (simp only [List.length_set, List.length_replicate]; omega) | (rw [plOf_len]; omega)) rfl rfl ?_
    intro Wb2 rb3 bb1 zb4
    have hlbb1 := r7.lt
    clear r7
    replace q := q.grown bb1 q.size (by rintro k ⟨⟩; omega)
    replace o := o.grown bb1 (own_ne o (by omega))
    have r7 := rb3
    clear rb3
    refine LL.nil ?_
    refine EE.inN ?_
    refine EE.thenN ?_
    refine CC.region ?_
    refine LL.val (R.move rfl rfl) rfl rfl rfl ?_
    refine LL.val (R.addNc rfl rfl rfl rfl (by omega)) rfl rfl rfl ?_
    refine LL.val (R.assign rfl rfl) rfl rfl rfl ?_
    refine LL.nil ?_
    exact EE.round (j + 1, v') ⟨rfl, rfl, rfl, trivial⟩ ⟨by show j + 1 ≤ 128 - f; omega, q, by show g6 + 1 ≤ _; omega, r7, by show OwnsT rE 2 _ _ _ v' (gatR (dvF (plL l) f (j + 1))); rw [hd]; exact o⟩ (by show 128 - f - (j + 1) < 128 - f - j; omega)
  rw [if_neg h0] at hd
  have hdl := dvF_len (plL l) f j
  have hgl := gatR_len (dvF (plL l) f j)
  refine CC.seq ?_
  refine CC.seq ?_
  refine CC.region ?_
  refine LL.val (R.move rfl rfl) rfl rfl rfl ?_
  refine LL.val (R.ltT rfl rfl rfl (by omega)) rfl rfl rfl ?_
  refine LL.nilS ?_
  refine CC.yes rfl ?_
  refine CC.skip ?_
  refine EE.thenN ?_
  refine CC.seq ?_
  refine CC.block ?_
  refine CC.seq ?_
  refine CC.seq ?_
  refine CC.region ?_
  refine LL.val (R.move rfl rfl) rfl rfl rfl ?_
  refine LL.val (R.index rfl rfl rfl (I.ixA1 rfl (by omega))) rfl rfl rfl ?_
  refine LL.val (R.load rfl rfl (I.ld1 rfl (by assumption))) rfl rfl rfl ?_
  refine LL.val (R.neT rfl rfl rfl (by omega)) rfl rfl rfl ?_
  refine LL.nilS ?_
  refine CC.yes rfl ?_
  refine CC.region ?_
  refine LL.val (R.move rfl rfl) rfl rfl rfl ?_
  refine LL.val (R.move rfl rfl) rfl rfl rfl ?_
  refine LL.val (R.index rfl rfl rfl (I.ixA1 rfl (by omega))) rfl rfl rfl ?_
  refine LL.val (R.load rfl rfl (I.ld1 rfl (by assumption))) rfl rfl rfl ?_
  refine LL.call (R.call rfl rfl rfl) rfl rfl rfl (run_any (gatR (dvF (plL l) f j)) z v' _ (o.reads rEnc) (by omega) (gatR_lit (dvF_lit hsm f j) hdl (by omega)) (by omega)) ?_
  rintro e W1 ⟨v2, rfl, o2, b1⟩
  refine ⟨_, rfl, ?_⟩
  replace q := q.trans (b1.mono q.size)
  replace r7 := r7.up b1
  have y1 := b1.size
  replace o2 := o2.lower (base := g6 + 1) (by omega)
  rw [← gatR_snoc, ← hd] at o2
  clear o b1 c1
  have yq := q.size
  refine LL.val (R.assign rfl rfl) rfl rfl rfl ?_
  refine LL.nilS ?_
  refine CC.region ?_
  refine LL.val (R.move rfl rfl) rfl rfl rfl ?_
  refine LL.val (R.index rfl rfl rfl (I.ixA1 rfl (by omega))) rfl rfl rfl ?_
  refine LL.storeZ rfl rfl (Nat.zero_add _) rfl rfl r7 (by first | omega | (simp only [List.length_set, List.length_replicate]; omega) | (rw [plOf_len]; omega)) rfl rfl ?_
  intro Wd2 rd3 bd1 zd4
  have hlbd1 := r7.lt
  clear r7
  replace q := q.grown bd1 q.size (by rintro k ⟨⟩; omega)
  replace o2 := o2.grown bd1 (own_ne o2 (by omega))
  have r7 := rd3
  clear rd3
  refine LL.nil ?_
  refine EE.inN ?_
  refine EE.thenN ?_
  refine CC.region ?_
  refine LL.val (R.move rfl rfl) rfl rfl rfl ?_
  refine LL.val (R.addNc rfl rfl rfl rfl (by omega)) rfl rfl rfl ?_
  refine LL.val (R.assign rfl rfl) rfl rfl rfl ?_
  refine LL.nil ?_
  exact EE.round (j + 1, v2) ⟨rfl, rfl, rfl, trivial⟩ ⟨by show j + 1 ≤ 128 - f; omega, q, by show g6 + 1 ≤ _; omega, r7, o2⟩ (by show 128 - f - (j + 1) < 128 - f - j; omega)
set_option maxRecDepth 100000 in
set_option maxHeartbeats 8000000 in
theorem rput_bad (l : List Ex) (x : Ex) (v : Value) (w : World) (hv : ReadsT eE 3 w v l) (hlen : l.length ≤ 1048576) (h : ¬vL l ∨ ¬mayE x) : Calls Tryd.prog 19 #[v, exV x] w fun e w' => e = .returned (.tuple #[.slice none 0 0, .slice none 0 0, .int .i64 2]) ∧ Below w.heap.size w w' := by
  have q := Below.refl w.heap.size w
  by_cases hl : vL l
  · have hm : ¬mayE x := by
      rcases h with h | h
      · exact absurd hl h
      · exact h
    refine X.fn Tryd.func19 rfl (n := 74) rfl rfl ?_
    refine CC.seq ?_
    refine CC.region ?_
    refine LL.box [Value.int IntKind.i64 x.1, Value.int IntKind.i64 x.2.1, Value.int IntKind.i64 x.2.2] rfl rfl rfl rfl rfl ?_
    intro W2 g3 eg3 r4 z5 b1
    replace hv := hv.up b1
    replace q := q.trans (b1.mono q.size)
    refine LL.val (R.assign rfl rfl) rfl rfl rfl ?_
    refine LL.val (R.assign rfl rfl) rfl rfl rfl ?_
    refine LL.val (R.assign rfl rfl) rfl rfl rfl ?_
    refine LL.nilS ?_
    refine CC.seq ?_
    refine CC.region ?_
    refine LL.val (R.move rfl rfl) rfl rfl rfl ?_
    refine LL.call (R.call rfl rfl rfl) rfl rfl rfl (rof_T _ _ _ (by first | assumption | omega) (by first | assumption | omega) (by first | assumption | omega)) ?_
    rintro e W7 ⟨rfl, b6⟩
    refine ⟨_, rfl, ?_⟩
    have zb6 := b6.size
    replace r4 := r4.up b6
    replace b1 := b1.trans (b6.mono b1.size)
    replace hv := hv.up b6
    replace q := q.trans (b6.mono q.size)
    refine LL.val (R.move rfl rfl) rfl rfl rfl ?_
    refine LL.val (R.extract rfl rfl rfl) rfl rfl rfl ?_
    refine LL.val (R.extract rfl rfl rfl) rfl rfl rfl ?_
    have l9 := r4.lt
    refine LL.alloc (intsZ .i64 (List.replicate 128 0)) rfl rfl rfl rfl rfl ?_
    intro W11 g12 eg12 r13 z14 b10
    replace b6 := b6.trans (b10.mono b6.size)
    replace r4 := r4.up b10
    replace b1 := b1.trans (b10.mono b1.size)
    replace hv := hv.up b10
    replace q := q.trans (b10.mono q.size)
    refine LL.storeAZ rfl rfl rfl rfl (by first | assumption | exact List.length_replicate | exact plL_len _ | exact plOf_len _ | simp) r13 (by first | (rw [List.length_map]; exact (by first | assumption | exact List.length_replicate | exact plL_len _ | exact plOf_len _ | simp)) | simp) rfl rfl ?_
    intro W16 r17 b15 z18
    have hlb15 := r13.lt
    clear r13
    replace b10 := b10.grown b15 b10.size (by rintro k ⟨⟩; omega)
    replace b6 := b6.grown b15 b6.size (by rintro k ⟨⟩; omega)
    replace r4 := r4.gr b15 (by have := r4.lt; omega)
    replace b1 := b1.grown b15 b1.size (by rintro k ⟨⟩; omega)
    replace q := q.grown b15 q.size (by rintro k ⟨⟩; omega)
    have r13 := r17
    clear r17
    refine LL.val (R.assign rfl rfl) rfl rfl rfl ?_
    refine LL.nilS ?_
    refine CC.seq ?_
    refine CC.seq ?_
    refine CC.region ?_
    refine LL.val (R.move rfl rfl) rfl rfl rfl ?_
    refine LL.val (R.not rfl rfl) rfl rfl rfl ?_
    refine LL.val (R.move rfl rfl) rfl rfl rfl ?_
    refine LL.val (R.load rfl rfl (I.ldNc (vs := [Value.int IntKind.i64 x.1, Value.int IntKind.i64 x.2.1, Value.int IntKind.i64 x.2.2]) (RowL.cells r4 rfl) (by rfl) (by rfl))) rfl rfl rfl ?_
    refine LL.callBF (R.call rfl rfl rfl) rfl rfl rfl (right_any _ _) (by first | assumption | omega) (fun W20 b19 => ?_)
    have zb19 := b19.size
    replace b10 := b10.trans (b19.mono b10.size)
    replace b6 := b6.trans (b19.mono b6.size)
    replace r4 := r4.up b19
    replace b1 := b1.trans (b19.mono b1.size)
    replace q := q.trans (b19.mono q.size)
    replace r13 := r13.up b19
    refine LL.val (R.not rfl rfl) rfl rfl rfl ?_
    refine LL.val (R.pick rfl rfl rfl) rfl rfl rfl ?_
    refine LL.nilS ?_
    refine CC.yes rfl ?_
    refine CC.seq ?_
    refine CC.region ?_
    refine LL.val (R.assign rfl rfl) rfl rfl rfl ?_
    refine LL.val (R.assign rfl rfl) rfl rfl rfl ?_
    refine LL.val (R.assign rfl rfl) rfl rfl rfl ?_
    refine LL.nilS ?_
    refine CC.ret ?_
    refine EE.thenR ?_
    refine EE.ret _ rfl rfl ?_
    exact ⟨rfl, q⟩
  · refine X.fn Tryd.func19 rfl (n := 74) rfl rfl ?_
    refine CC.seq ?_
    refine CC.region ?_
    refine LL.box [Value.int IntKind.i64 x.1, Value.int IntKind.i64 x.2.1, Value.int IntKind.i64 x.2.2] rfl rfl rfl rfl rfl ?_
    intro Wa2 ga3 ega3 ra4 za5 ba1
    replace hv := hv.up ba1
    replace q := q.trans (ba1.mono q.size)
    refine LL.val (R.assign rfl rfl) rfl rfl rfl ?_
    refine LL.val (R.assign rfl rfl) rfl rfl rfl ?_
    refine LL.val (R.assign rfl rfl) rfl rfl rfl ?_
    refine LL.nilS ?_
    refine CC.seq ?_
    refine CC.region ?_
    refine LL.val (R.move rfl rfl) rfl rfl rfl ?_
    refine LL.call (R.call rfl rfl rfl) rfl rfl rfl (rof_F _ _ _ (by first | assumption | omega) (by first | assumption | omega) (by first | assumption | omega)) ?_
    rintro e Wa7 ⟨va8, rfl, ka9, ba6⟩
    refine ⟨_, rfl, ?_⟩
    have zba6 := ba6.size
    replace ra4 := ra4.up ba6
    replace ba1 := ba1.trans (ba6.mono ba1.size)
    replace hv := hv.up ba6
    replace q := q.trans (ba6.mono q.size)
    refine LL.val (R.move rfl rfl) rfl rfl rfl ?_
    refine LL.val (R.extract rfl rfl rfl) rfl rfl rfl ?_
    refine LL.val (R.extract rfl rfl rfl) rfl rfl rfl ?_
    have la11 := ra4.lt
    refine LL.alloc (intsZ .i64 (List.replicate 128 0)) rfl rfl rfl rfl rfl ?_
    intro Wa13 ga14 ega14 ra15 za16 ba12
    replace ba6 := ba6.trans (ba12.mono ba6.size)
    replace ra4 := ra4.up ba12
    replace ba1 := ba1.trans (ba12.mono ba1.size)
    replace hv := hv.up ba12
    replace q := q.trans (ba12.mono q.size)
    refine LL.storeAZ rfl rfl rfl rfl (by first | assumption | exact List.length_replicate | exact plL_len _ | exact plOf_len _ | simp) ra15 (by first | (rw [List.length_map]; exact (by first | assumption | exact List.length_replicate | exact plL_len _ | exact plOf_len _ | simp)) | simp) rfl rfl ?_
    intro Wa18 ra19 ba17 za20
    have hlba17 := ra15.lt
    clear ra15
    replace ba12 := ba12.grown ba17 ba12.size (by rintro k ⟨⟩; omega)
    replace ba6 := ba6.grown ba17 ba6.size (by rintro k ⟨⟩; omega)
    replace ra4 := ra4.gr ba17 (by have := ra4.lt; omega)
    replace ba1 := ba1.grown ba17 ba1.size (by rintro k ⟨⟩; omega)
    replace q := q.grown ba17 q.size (by rintro k ⟨⟩; omega)
    have ra15 := ra19
    clear ra19
    refine LL.val (R.assign rfl rfl) rfl rfl rfl ?_
    refine LL.nilS ?_
    refine CC.seq ?_
    refine CC.seq ?_
    refine CC.region ?_
    refine LL.val (R.move rfl rfl) rfl rfl rfl ?_
    refine LL.val (R.not rfl rfl) rfl rfl rfl ?_
    refine LL.val (R.move rfl rfl) rfl rfl rfl ?_
    refine LL.skip rfl rfl ?_
    refine LL.skip rfl rfl ?_
    refine LL.skip rfl rfl ?_
    refine LL.val (R.pick rfl rfl rfl) rfl rfl rfl ?_
    refine LL.nilS ?_
    refine CC.yes rfl ?_
    refine CC.seq ?_
    refine CC.region ?_
    refine LL.val (R.assign rfl rfl) rfl rfl rfl ?_
    refine LL.val (R.assign rfl rfl) rfl rfl rfl ?_
    refine LL.val (R.assign rfl rfl) rfl rfl rfl ?_
    refine LL.nilS ?_
    refine CC.ret ?_
    refine EE.thenR ?_
    refine EE.ret _ rfl rfl ?_
    exact ⟨rfl, q⟩
--C ref06_Right | hmayR @w | DB
set_option maxRecDepth 100000 in
set_option maxHeartbeats 8000000 in
theorem rput_any (l : List Ex) (f d k : Nat) (v : Value) (w : World) (hv : ReadsT eE 3 w v l) (hl : vL l) (hm : mayE ((f : Int), (d : Int), (k : Int))) : Calls Tryd.prog 19 #[v, .agg #[.int .i64 (f : Int), .int .i64 (d : Int), .int .i64 (k : Int)]] w fun e w' => ((¬okPut l ((f : Int), (d : Int), (k : Int)) ∧ e = .returned (.tuple #[.slice none 0 0, .slice none 0 0, .int .i64 2])) ∨
    (okPut l ((f : Int), (d : Int), (k : Int)) ∧ 10 < (gat (nz (setN (plL l) f d k))).length ∧ e = .returned (.tuple #[.slice none 0 0, .slice none 0 0, .int .i64 3])) ∨
    (okPut l ((f : Int), (d : Int), (k : Int)) ∧ (gat (nz (setN (plL l) f d k))).length ≤ 10 ∧ ∃ v1 v2, e = .returned (.tuple #[v1, v2, .int .i64 0]) ∧ ReadsT eE 3 w' v1 (gat (nz (setN (plL l) f d k))) ∧ ReadsT rE 2 w' v2 (gatR (dvF (plL l) f k)))) ∧ Below w.heap.size w w' := by
  have q := Below.refl w.heap.size w
  have hlen : l.length ≤ 1048576 := by have := hl.1; omega
  have hsm := (vL_okP hl).small
  have hpl := plL_len l
  have hmu := hm
  unfold mayE at hmu
  simp only at hmu
  have hmayR := fun W => right_any ((f : Int), (d : Int), (k : Int)) W
  refine X.fn Tryd.func19 rfl (n := 74) rfl rfl ?_
  refine CC.seq ?_
  refine CC.region ?_
  refine LL.box [Value.int IntKind.i64 ↑f, Value.int IntKind.i64 ↑d, Value.int IntKind.i64 ↑k] rfl rfl rfl rfl rfl ?_
  intro W2 g3 eg3 r4 z5 b1
  replace hv := hv.up b1
  replace q := q.trans (b1.mono q.size)
  refine LL.val (R.assign rfl rfl) rfl rfl rfl ?_
  refine LL.val (R.assign rfl rfl) rfl rfl rfl ?_
  refine LL.val (R.assign rfl rfl) rfl rfl rfl ?_
  refine LL.nilS ?_
  refine CC.seq ?_
  refine CC.region ?_
  refine LL.val (R.move rfl rfl) rfl rfl rfl ?_
  refine LL.call (R.call rfl rfl rfl) rfl rfl rfl (rof_T _ _ _ (by first | assumption | omega) (by first | assumption | omega) (by first | assumption | omega)) ?_
  rintro e W7 ⟨rfl, b6⟩
  refine ⟨_, rfl, ?_⟩
  have zb6 := b6.size
  replace r4 := r4.up b6
  replace b1 := b1.trans (b6.mono b1.size)
  replace hv := hv.up b6
  replace q := q.trans (b6.mono q.size)
  refine LL.val (R.move rfl rfl) rfl rfl rfl ?_
  refine LL.val (R.extract rfl rfl rfl) rfl rfl rfl ?_
  refine LL.val (R.extract rfl rfl rfl) rfl rfl rfl ?_
  have l9 := r4.lt
  refine LL.alloc (intsZ .i64 (List.replicate 128 0)) rfl rfl rfl rfl rfl ?_
  intro W11 g12 eg12 r13 z14 b10
  replace b6 := b6.trans (b10.mono b6.size)
  replace r4 := r4.up b10
  replace b1 := b1.trans (b10.mono b1.size)
  replace hv := hv.up b10
  replace q := q.trans (b10.mono q.size)
  refine LL.storeAZ rfl rfl rfl rfl (by first | assumption | exact List.length_replicate | exact plL_len _ | exact plOf_len _ | simp) r13 (by first | (rw [List.length_map]; exact (by first | assumption | exact List.length_replicate | exact plL_len _ | exact plOf_len _ | simp)) | simp) rfl rfl ?_
  intro W16 r17 b15 z18
  have hlb15 := r13.lt
  clear r13
  replace b10 := b10.grown b15 b10.size (by rintro k ⟨⟩; omega)
  replace b6 := b6.grown b15 b6.size (by rintro k ⟨⟩; omega)
  replace r4 := r4.gr b15 (by have := r4.lt; omega)
  replace b1 := b1.grown b15 b1.size (by rintro k ⟨⟩; omega)
  replace q := q.grown b15 q.size (by rintro k ⟨⟩; omega)
  have r13 := r17
  clear r17
  refine LL.val (R.assign rfl rfl) rfl rfl rfl ?_
  refine LL.nilS ?_
  refine CC.seq ?_
  refine CC.seq ?_
  refine CC.region ?_
  refine LL.val (R.move rfl rfl) rfl rfl rfl ?_
  refine LL.val (R.not rfl rfl) rfl rfl rfl ?_
  refine LL.val (R.move rfl rfl) rfl rfl rfl ?_
  refine LL.val (R.load rfl rfl (I.ldNc (vs := [Value.int IntKind.i64 ↑f, Value.int IntKind.i64 ↑d, Value.int IntKind.i64 ↑k]) (RowL.cells r4 rfl) (by rfl) (by rfl))) rfl rfl rfl ?_
  refine LL.callBT (R.call rfl rfl rfl) rfl rfl rfl (hmayR _) (by first | assumption | omega) (fun W20 b19 => ?_)
  have zb19 := b19.size
  replace b10 := b10.trans (b19.mono b10.size)
  replace b6 := b6.trans (b19.mono b6.size)
  replace r4 := r4.up b19
  replace b1 := b1.trans (b19.mono b1.size)
  replace q := q.trans (b19.mono q.size)
  replace r13 := r13.up b19
  refine LL.val (R.not rfl rfl) rfl rfl rfl ?_
  refine LL.val (R.pick rfl rfl rfl) rfl rfl rfl ?_
  refine LL.nilS ?_
  refine CC.no rfl ?_
  refine CC.skip ?_
  refine EE.thenN ?_
  refine CC.seq ?_
  refine CC.seq ?_
  refine CC.region ?_
  refine LL.val (R.assign rfl rfl) rfl rfl rfl ?_
  refine LL.nilS ?_
  refine CC.block ?_
  have lg := r13.lt
  have hg : g3 < g12 := by omega
  have hwg3 : w.heap.size ≤ g3 := by omega
  refine CC.loop (α := Nat) (fun i => [(3, .pointer (some ⟨g3, 0, none⟩)), (7, .pointer (some ⟨g12, 0, none⟩)), (9, .int .i64 (i : Int))]) (fun i W => i ≤ k ∧ Below w.heap.size w W ∧ g12 + 1 ≤ W.heap.size ∧ RowL W g3 41 [.int .i64 (f : Int), .int .i64 (d : Int), .int .i64 (k : Int)] ∧ RowL W g12 25 (intsZ .i64 (plL l)) ∧ ∀ j, j < i → ¬hasP (plL l) ((d + j : Nat) : Int)) (fun i => k - i) 0 ⟨rfl, rfl, rfl, trivial⟩ ⟨by omega, q, by omega, r4, r13, fun j h => by omega⟩ ?_
  clear q r4 r13 hv
  rintro i W ⟨hi, q, yB, r4, r13, hnp⟩
  show CC none Tryd.prog _ 74 [] (sl [(3, .pointer (some ⟨g3, 0, none⟩)), (7, .pointer (some ⟨g12, 0, none⟩)), (9, .int .i64 (i : Int))]) _ W
  have yq := q.size
  by_cases hik : i < k
  case pos =>
    by_cases hh : hasP (plL l) ((d + i : Nat) : Int)
    · have hno : ¬okPut l ((f : Int), (d : Int), (k : Int)) := fun h => ok_noP h hik hh
      refine CC.seq ?_
      refine CC.seq ?_
      refine CC.region ?_
      refine LL.val (R.move rfl rfl) rfl rfl rfl ?_
      refine LL.val (R.field rfl rfl (I.fld rfl)) rfl rfl rfl ?_
      refine LL.val (R.load rfl rfl (I.ld1 rfl (RowL.cell r4 rfl))) rfl rfl rfl ?_
      refine LL.val (R.ltT rfl rfl rfl (by omega)) rfl rfl rfl ?_
      refine LL.nilS ?_
      refine CC.yes rfl ?_
      refine CC.skip ?_
      refine EE.thenN ?_
      refine CC.seq ?_
      refine CC.block ?_
      refine CC.seq ?_
      refine CC.region ?_
      refine LL.val (R.loadZ rfl rfl r13 rfl rfl (by first | assumption | exact List.length_replicate | exact plL_len _ | exact plOf_len _ | simp)) rfl rfl rfl ?_
      refine LL.val (R.field rfl rfl (I.fld rfl)) rfl rfl rfl ?_
      refine LL.val (R.load rfl rfl (I.ld1 rfl (RowL.cell r4 rfl))) rfl rfl rfl ?_
      refine LL.val (R.move rfl rfl) rfl rfl rfl ?_
      refine LL.val (R.addN rfl rfl rfl (by omega)) rfl rfl rfl ?_
      refine LL.call (R.call rfl rfl rfl) rfl rfl rfl (has_T _ _ _ (by first | assumption | omega) (by first | assumption | omega)) ?_
      rintro e Wa2 ⟨rfl, ba1⟩
      refine ⟨_, rfl, ?_⟩
      have zba1 := ba1.size
      replace q := q.trans (ba1.mono q.size)
      replace r4 := r4.up ba1
      replace r13 := r13.up ba1
      refine LL.nilS ?_
      refine CC.yes rfl ?_
      refine CC.seq ?_
      refine CC.region ?_
      refine LL.val (R.assign rfl rfl) rfl rfl rfl ?_
      refine LL.val (R.assign rfl rfl) rfl rfl rfl ?_
      refine LL.val (R.assign rfl rfl) rfl rfl rfl ?_
      refine LL.nilS ?_
      refine CC.ret ?_
      refine EE.inR ?_
      refine EE.thenR ?_
      refine EE.thenR ?_
      refine EE.inR ?_
      refine EE.thenR ?_
      refine EE.ret _ rfl rfl ?_
      exact ⟨.inl ⟨hno, rfl⟩, q⟩
    · have hnp' : ∀ j, j < i + 1 → ¬hasP (plL l) ((d + j : Nat) : Int) := fun j hj => by
        by_cases e : j = i
        · subst e; exact hh
        · exact hnp j (by omega)
      refine CC.seq ?_
      refine CC.seq ?_
      refine CC.region ?_
      refine LL.val (R.move rfl rfl) rfl rfl rfl ?_
      refine LL.val (R.field rfl rfl (I.fld rfl)) rfl rfl rfl ?_
      refine LL.val (R.load rfl rfl (I.ld1 rfl (RowL.cell r4 rfl))) rfl rfl rfl ?_
      refine LL.val (R.ltT rfl rfl rfl (by omega)) rfl rfl rfl ?_
      refine LL.nilS ?_
      refine CC.yes rfl ?_
      refine CC.skip ?_
      refine EE.thenN ?_
      refine CC.seq ?_
      refine CC.block ?_
      refine CC.seq ?_
      refine CC.region ?_
      refine LL.val (R.loadZ rfl rfl r13 rfl rfl (by first | assumption | exact List.length_replicate | exact plL_len _ | exact plOf_len _ | simp)) rfl rfl rfl ?_
      refine LL.val (R.field rfl rfl (I.fld rfl)) rfl rfl rfl ?_
      refine LL.val (R.load rfl rfl (I.ld1 rfl (RowL.cell r4 rfl))) rfl rfl rfl ?_
      refine LL.val (R.move rfl rfl) rfl rfl rfl ?_
      refine LL.val (R.addN rfl rfl rfl (by omega)) rfl rfl rfl ?_
      refine LL.call (R.call rfl rfl rfl) rfl rfl rfl (has_F _ _ _ (by first | assumption | omega) (by first | assumption | omega)) ?_
      rintro e Wb2 ⟨rfl, bb1⟩
      refine ⟨_, rfl, ?_⟩
      have zbb1 := bb1.size
      replace q := q.trans (bb1.mono q.size)
      replace r4 := r4.up bb1
      replace r13 := r13.up bb1
      refine LL.nilS ?_
      refine CC.no rfl ?_
      refine CC.skip ?_
      refine EE.inN ?_
      refine EE.thenN ?_
      refine CC.region ?_
      refine LL.val (R.move rfl rfl) rfl rfl rfl ?_
      refine LL.val (R.addNc rfl rfl rfl rfl (by omega)) rfl rfl rfl ?_
      refine LL.val (R.assign rfl rfl) rfl rfl rfl ?_
      refine LL.nil ?_
      exact EE.round (i + 1) ⟨rfl, rfl, rfl, trivial⟩ ⟨by omega, q, by omega, r4, r13, hnp'⟩ (by omega)
  have hok : okPut l ((f : Int), (d : Int), (k : Int)) := ok_ofP hl hm fun j hj => hnp j (by omega)
  have hpo := put_okP hok
  have hsp := hpo.small
  obtain ⟨n, hn⟩ : ∃ n, (gat (nz (setN (plL l) f d k))).length = n := ⟨_, rfl⟩
  clear hnp hmayR
  refine CC.seq ?_
  refine CC.seq ?_
  refine CC.region ?_
  refine LL.val (R.move rfl rfl) rfl rfl rfl ?_
  refine LL.val (R.field rfl rfl (I.fld rfl)) rfl rfl rfl ?_
  refine LL.val (R.load rfl rfl (I.ld1 rfl (RowL.cell r4 rfl))) rfl rfl rfl ?_
  refine LL.val (R.ltF rfl rfl rfl (by omega)) rfl rfl rfl ?_
  refine LL.nilS ?_
  refine CC.no rfl ?_
  refine CC.exit ?_
  refine EE.thenX ?_
  refine EE.thenX ?_
  refine EE.inX ?_
  refine EE.thenN ?_
  refine CC.seq ?_
  refine CC.region ?_
  refine LL.val (R.assign rfl rfl) rfl rfl rfl ?_
  refine LL.nilS ?_
  refine CC.seq ?_
  refine CC.seq ?_
  refine CC.region ?_
  refine LL.val (R.assign rfl rfl) rfl rfl rfl ?_
  refine LL.nilS ?_
  refine CC.block ?_
  have yq := q.size
  have lg := r13.lt
  refine CC.loop (α := Nat × Value) (fun s => [(3, .pointer (some ⟨g3, 0, none⟩)), (7, .pointer (some ⟨g12, 0, none⟩)), (10, s.2), (11, .int .i64 (s.1 : Int))]) (fun s W => s.1 ≤ k ∧ Below w.heap.size w W ∧ g12 + 1 ≤ W.heap.size ∧ RowL W g3 41 [.int .i64 (f : Int), .int .i64 (d : Int), .int .i64 (k : Int)] ∧ RowL W g12 25 (intsZ .i64 (setN (plL l) f d s.1)) ∧ OwnsT rE 2 W (g12 + 1) 64 s.2 (gatR (dvF (plL l) f s.1))) (fun s => k - s.1) (0, .slice none 0 0) ⟨rfl, rfl, rfl, rfl, trivial⟩ ⟨by show 0 ≤ k; omega, q, by omega, r4, r13, OwnsT.none _ _ _⟩ ?_
  clear q r4 r13 hik hi
  rintro ⟨j, v'⟩ W ⟨hj, q, yB, r4, r13, o⟩
  simp only at hj o yB r13
  show CC none Tryd.prog _ 74 [] (sl [(3, .pointer (some ⟨g3, 0, none⟩)), (7, .pointer (some ⟨g12, 0, none⟩)), (10, v'), (11, .int .i64 (j : Int))]) _ W
  have yq := q.size
  have hzl : (setN (plL l) f d j).length = 128 := by rw [setN_len]; exact hpl
  by_cases hjk : j < k
  case neg =>
    obtain rfl : j = k := by omega
    have hr := o.reads rEnc
    clear o
    by_cases h10 : 10 < n
    · refine CC.seq ?_
      refine CC.seq ?_
      refine CC.region ?_
      refine LL.val (R.move rfl rfl) rfl rfl rfl ?_
      refine LL.val (R.field rfl rfl (I.fld rfl)) rfl rfl rfl ?_
      refine LL.val (R.load rfl rfl (I.ld1 rfl (RowL.cell r4 rfl))) rfl rfl rfl ?_
      refine LL.val (R.ltF rfl rfl rfl (by omega)) rfl rfl rfl ?_
      refine LL.nilS ?_
      refine CC.no rfl ?_
      refine CC.exit ?_
      refine EE.thenX ?_
      refine EE.thenX ?_
      refine EE.inX ?_
      refine EE.thenN ?_
      refine CC.seq ?_
      refine CC.region ?_
      refine LL.val (R.loadZ rfl rfl r13 rfl rfl (by first | assumption | exact List.length_replicate | exact plL_len _ | exact plOf_len _ | simp)) rfl rfl rfl ?_
      refine LL.call (R.call rfl rfl rfl) rfl rfl rfl (rlist_f _ _ _ (by first | assumption | omega) (by first | assumption | omega)) ?_
      rintro e Wd2 ⟨vd5, gd4, rfl, hd3, bd1⟩
      refine ⟨_, rfl, ?_⟩
      have zbd1 := bd1.size
      replace q := q.trans (bd1.mono q.size)
      replace r13 := r13.up bd1
      replace r4 := r4.up bd1
      replace hr := hr.up bd1
      refine LL.val (R.assign rfl rfl) rfl rfl rfl ?_
      refine LL.nilS ?_
      refine CC.seq ?_
      refine CC.seq ?_
      refine CC.region ?_
      refine LL.val (R.move rfl rfl) rfl rfl rfl ?_
      refine LL.val (R.len rfl rfl rfl rfl) rfl rfl rfl ?_
      refine LL.val (R.gtT rfl rfl rfl (by omega)) rfl rfl rfl ?_
      refine LL.nilS ?_
      refine CC.yes rfl ?_
      refine CC.seq ?_
      refine CC.region ?_
      refine LL.val (R.assign rfl rfl) rfl rfl rfl ?_
      refine LL.val (R.assign rfl rfl) rfl rfl rfl ?_
      refine LL.val (R.assign rfl rfl) rfl rfl rfl ?_
      refine LL.nilS ?_
      refine CC.ret ?_
      refine EE.thenR ?_
      refine EE.ret _ rfl rfl ?_
      exact ⟨.inr (.inl ⟨hok, by rw [hn]; exact h10, rfl⟩), q⟩
    · refine CC.seq ?_
      refine CC.seq ?_
      refine CC.region ?_
      refine LL.val (R.move rfl rfl) rfl rfl rfl ?_
      refine LL.val (R.field rfl rfl (I.fld rfl)) rfl rfl rfl ?_
      refine LL.val (R.load rfl rfl (I.ld1 rfl (RowL.cell r4 rfl))) rfl rfl rfl ?_
      refine LL.val (R.ltF rfl rfl rfl (by omega)) rfl rfl rfl ?_
      refine LL.nilS ?_
      refine CC.no rfl ?_
      refine CC.exit ?_
      refine EE.thenX ?_
      refine EE.thenX ?_
      refine EE.inX ?_
      refine EE.thenN ?_
      refine CC.seq ?_
      refine CC.region ?_
      refine LL.val (R.loadZ rfl rfl r13 rfl rfl (by first | assumption | exact List.length_replicate | exact plL_len _ | exact plOf_len _ | simp)) rfl rfl rfl ?_
      refine LL.call (R.call rfl rfl rfl) rfl rfl rfl (rlist_f _ _ _ (by first | assumption | omega) (by first | assumption | omega)) ?_
      rintro e We2 ⟨ve5, ge4, rfl, he3, be1⟩
      refine ⟨_, rfl, ?_⟩
      have zbe1 := be1.size
      replace q := q.trans (be1.mono q.size)
      replace r13 := r13.up be1
      replace r4 := r4.up be1
      replace hr := hr.up be1
      refine LL.val (R.assign rfl rfl) rfl rfl rfl ?_
      refine LL.nilS ?_
      refine CC.seq ?_
      refine CC.seq ?_
      refine CC.region ?_
      refine LL.val (R.move rfl rfl) rfl rfl rfl ?_
      refine LL.val (R.len rfl rfl rfl rfl) rfl rfl rfl ?_
      refine LL.val (R.gtF rfl rfl rfl (by omega)) rfl rfl rfl ?_
      refine LL.nilS ?_
      refine CC.no rfl ?_
      refine CC.skip ?_
      refine EE.thenN ?_
      refine CC.seq ?_
      refine CC.region ?_
      refine LL.val (R.move rfl rfl) rfl rfl rfl ?_
      refine LL.val (R.move rfl rfl) rfl rfl rfl ?_
      refine LL.val (R.assign rfl rfl) rfl rfl rfl ?_
      refine LL.val (R.assign rfl rfl) rfl rfl rfl ?_
      refine LL.val (R.assign rfl rfl) rfl rfl rfl ?_
      refine LL.nilS ?_
      refine CC.ret ?_
      refine EE.ret _ rfl rfl ?_
      exact ⟨.inr (.inr ⟨hok, by rw [hn]; omega, _, _, rfl, by assumption, by assumption⟩), q⟩
  obtain ⟨z, hz⟩ : ∃ z, (plL l)[f + j]? = some z := ⟨_, List.getElem?_eq_getElem (by omega)⟩
  have hzz : (setN (plL l) f d j)[f + j]? = some z := by rw [setN_at (by omega), if_neg (by omega)]; exact hz
  have hzb := hsm.2 _ z hz
  have c1 : W.cell? ⟨g12, 0 + (f + j), none⟩ = some (.int .i64 z) := RowL.cell r13 (by rw [show 0 + (f + j) = f + j by omega]; simp [hzz])
  have hd : dvF (plL l) f (j + 1) = dvF (plL l) f j ++ if z = 0 then [] else [z] := by show dvF (plL l) f j ++ _ = _; rw [hz]; rfl
  by_cases h0 : z = 0
  · rw [if_pos h0, List.append_nil] at hd
    refine CC.seq ?_
    refine CC.seq ?_
    refine CC.region ?_
    refine LL.val (R.move rfl rfl) rfl rfl rfl ?_
    refine LL.val (R.field rfl rfl (I.fld rfl)) rfl rfl rfl ?_
    refine LL.val (R.load rfl rfl (I.ld1 rfl (RowL.cell r4 rfl))) rfl rfl rfl ?_
    refine LL.val (R.ltT rfl rfl rfl (by omega)) rfl rfl rfl ?_
    refine LL.nilS ?_
    refine CC.yes rfl ?_
    refine CC.skip ?_
    refine EE.thenN ?_
    refine CC.seq ?_
    refine CC.block ?_
    refine CC.seq ?_
    refine CC.seq ?_
    refine CC.region ?_
    refine LL.val (R.field rfl rfl (I.fld rfl)) rfl rfl rfl ?_
    refine LL.val (R.load rfl rfl (I.ld1 rfl (RowL.cell r4 rfl))) rfl rfl rfl ?_
    refine LL.val (R.move rfl rfl) rfl rfl rfl ?_
    refine LL.val (R.addN rfl rfl rfl (by omega)) rfl rfl rfl ?_
    refine LL.val (R.index rfl rfl rfl (I.ixA1 rfl (by omega))) rfl rfl rfl ?_
    refine LL.val (R.load rfl rfl (I.ld1 rfl (by assumption))) rfl rfl rfl ?_
    refine LL.val (R.neF rfl rfl rfl (by omega)) rfl rfl rfl ?_
    refine LL.nilS ?_
    refine CC.no rfl ?_
    refine CC.skip ?_
    refine EE.thenN ?_
    refine CC.region ?_
    refine LL.val (R.field rfl rfl (I.fld rfl)) rfl rfl rfl ?_
    refine LL.val (R.load rfl rfl (I.ld1 rfl (RowL.cell r4 rfl))) rfl rfl rfl ?_
    refine LL.val (R.move rfl rfl) rfl rfl rfl ?_
    refine LL.val (R.addN rfl rfl rfl (by omega)) rfl rfl rfl ?_
    refine LL.val (R.field rfl rfl (I.fld rfl)) rfl rfl rfl ?_
    refine LL.val (R.load rfl rfl (I.ld1 rfl (RowL.cell r4 rfl))) rfl rfl rfl ?_
    refine LL.val (R.move rfl rfl) rfl rfl rfl ?_
    refine LL.val (R.addN rfl rfl rfl (by omega)) rfl rfl rfl ?_
    refine LL.val (R.index rfl rfl rfl (I.ixA1 rfl (by omega))) rfl rfl rfl ?_
    refine LL.storeZ rfl rfl (Nat.zero_add _) rfl rfl r13 (by first | omega | (simp only [List.length_set, List.length_replicate]; omega) | (rw [plOf_len]; omega)) rfl rfl ?_
    intro Wf2 rf3 bf1 zf4
    have hlbf1 := r13.lt
    clear r13
    replace q := q.grown bf1 q.size (by rintro k ⟨⟩; omega)
    replace r4 := r4.gr bf1 (by have := r4.lt; omega)
    replace o := o.grown bf1 (own_ne o (by omega))
    have r13 := rf3
    clear rf3
    refine LL.nil ?_
    refine EE.inN ?_
    refine EE.thenN ?_
    refine CC.region ?_
    refine LL.val (R.move rfl rfl) rfl rfl rfl ?_
    refine LL.val (R.addNc rfl rfl rfl rfl (by omega)) rfl rfl rfl ?_
    refine LL.val (R.assign rfl rfl) rfl rfl rfl ?_
    refine LL.nil ?_
    exact EE.round (j + 1, v') ⟨rfl, rfl, rfl, rfl, trivial⟩ ⟨by show j + 1 ≤ k; omega, q, by show g12 + 1 ≤ _; omega, r4, (by show RowL _ _ _ (intsZ .i64 ((setN (plL l) f d j).set (f + j) ((d : Int) + (j : Int)))); exact r13), by show OwnsT rE 2 _ _ _ v' (gatR (dvF (plL l) f (j + 1))); rw [hd]; exact o⟩ (by show k - (j + 1) < k - j; omega)
  rw [if_neg h0] at hd
  have hdl := dvF_len (plL l) f j
  have hgl := gatR_len (dvF (plL l) f j)
  refine CC.seq ?_
  refine CC.seq ?_
  refine CC.region ?_
  refine LL.val (R.move rfl rfl) rfl rfl rfl ?_
  refine LL.val (R.field rfl rfl (I.fld rfl)) rfl rfl rfl ?_
  refine LL.val (R.load rfl rfl (I.ld1 rfl (RowL.cell r4 rfl))) rfl rfl rfl ?_
  refine LL.val (R.ltT rfl rfl rfl (by omega)) rfl rfl rfl ?_
  refine LL.nilS ?_
  refine CC.yes rfl ?_
  refine CC.skip ?_
  refine EE.thenN ?_
  refine CC.seq ?_
  refine CC.block ?_
  refine CC.seq ?_
  refine CC.seq ?_
  refine CC.region ?_
  refine LL.val (R.field rfl rfl (I.fld rfl)) rfl rfl rfl ?_
  refine LL.val (R.load rfl rfl (I.ld1 rfl (RowL.cell r4 rfl))) rfl rfl rfl ?_
  refine LL.val (R.move rfl rfl) rfl rfl rfl ?_
  refine LL.val (R.addN rfl rfl rfl (by omega)) rfl rfl rfl ?_
  refine LL.val (R.index rfl rfl rfl (I.ixA1 rfl (by omega))) rfl rfl rfl ?_
  refine LL.val (R.load rfl rfl (I.ld1 rfl (by assumption))) rfl rfl rfl ?_
  refine LL.val (R.neT rfl rfl rfl (by omega)) rfl rfl rfl ?_
  refine LL.nilS ?_
  refine CC.yes rfl ?_
  refine CC.region ?_
  refine LL.val (R.move rfl rfl) rfl rfl rfl ?_
  refine LL.val (R.field rfl rfl (I.fld rfl)) rfl rfl rfl ?_
  refine LL.val (R.load rfl rfl (I.ld1 rfl (RowL.cell r4 rfl))) rfl rfl rfl ?_
  refine LL.val (R.move rfl rfl) rfl rfl rfl ?_
  refine LL.val (R.addN rfl rfl rfl (by omega)) rfl rfl rfl ?_
  refine LL.val (R.index rfl rfl rfl (I.ixA1 rfl (by omega))) rfl rfl rfl ?_
  refine LL.val (R.load rfl rfl (I.ld1 rfl (by assumption))) rfl rfl rfl ?_
  refine LL.call (R.call rfl rfl rfl) rfl rfl rfl (run_any (gatR (dvF (plL l) f j)) z v' _ (o.reads rEnc) (by omega) (gatR_lit (dvF_lit hsm f j) hdl (by omega)) (by omega)) ?_
  rintro e W1 ⟨v2, rfl, o2, b1⟩
  refine ⟨_, rfl, ?_⟩
  replace q := q.trans (b1.mono q.size)
  replace r4 := r4.up b1
  replace r13 := r13.up b1
  have y1 := b1.size
  replace o2 := o2.lower (base := g12 + 1) (by omega)
  rw [← gatR_snoc, ← hd] at o2
  clear o b1 c1
  have yq := q.size
  refine LL.val (R.assign rfl rfl) rfl rfl rfl ?_
  refine LL.nilS ?_
  refine CC.region ?_
  refine LL.val (R.field rfl rfl (I.fld rfl)) rfl rfl rfl ?_
  refine LL.val (R.load rfl rfl (I.ld1 rfl (RowL.cell r4 rfl))) rfl rfl rfl ?_
  refine LL.val (R.move rfl rfl) rfl rfl rfl ?_
  refine LL.val (R.addN rfl rfl rfl (by omega)) rfl rfl rfl ?_
  refine LL.val (R.field rfl rfl (I.fld rfl)) rfl rfl rfl ?_
  refine LL.val (R.load rfl rfl (I.ld1 rfl (RowL.cell r4 rfl))) rfl rfl rfl ?_
  refine LL.val (R.move rfl rfl) rfl rfl rfl ?_
  refine LL.val (R.addN rfl rfl rfl (by omega)) rfl rfl rfl ?_
  refine LL.val (R.index rfl rfl rfl (I.ixA1 rfl (by omega))) rfl rfl rfl ?_
  refine LL.storeZ rfl rfl (Nat.zero_add _) rfl rfl r13 (by first | omega | (simp only [List.length_set, List.length_replicate]; omega) | (rw [plOf_len]; omega)) rfl rfl ?_
  intro Wh2 rh3 bh1 zh4
  have hlbh1 := r13.lt
  clear r13
  replace q := q.grown bh1 q.size (by rintro k ⟨⟩; omega)
  replace r4 := r4.gr bh1 (by have := r4.lt; omega)
  replace o2 := o2.grown bh1 (own_ne o2 (by omega))
  have r13 := rh3
  clear rh3
  refine LL.nil ?_
  refine EE.inN ?_
  refine EE.thenN ?_
  refine CC.region ?_
  refine LL.val (R.move rfl rfl) rfl rfl rfl ?_
  refine LL.val (R.addNc rfl rfl rfl rfl (by omega)) rfl rfl rfl ?_
  refine LL.val (R.assign rfl rfl) rfl rfl rfl ?_
  refine LL.nil ?_
  exact EE.round (j + 1, v2) ⟨rfl, rfl, rfl, rfl, trivial⟩ ⟨by show j + 1 ≤ k; omega, q, by show g12 + 1 ≤ _; omega, r4, (by show RowL _ _ _ (intsZ .i64 ((setN (plL l) f d j).set (f + j) ((d : Int) + (j : Int)))); exact r13), o2⟩ (by show k - (j + 1) < k - j; omega)
end Go.Proofs.YtklfopclaonggaaDoor
