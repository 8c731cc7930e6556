/- extents: Put. extents: Put, Cut. extents: Cut. -/
import Derived.Test.YtklfopclaonggaaDoorEd
namespace Go.Proofs.YtklfopclaonggaaDoor
set_option linter.unusedVariables false
set_option linter.unusedSimpArgs false
open Go.RowKit Go.Shelf
/-- Places with so many blocks set; with so many taken out. -/
def setN (p : List Int) (f : Nat) (d : Int) : Nat → List Int
  | 0 => p
  | k + 1 => (setN p f d k).set (f + k) (d + (k : Int))
def zerN (p : List Int) (f : Nat) : Nat → List Int
  | 0 => p
  | k + 1 => (zerN p f k).set (f + k) 0
theorem setN_len (p : List Int) (f : Nat) (d : Int) : ∀ k, (setN p f d k).length = p.length
  | 0 => rfl
  | k + 1 => by simp [setN, setN_len p f d k]
theorem zerN_len (p : List Int) (f : Nat) : ∀ k, (zerN p f k).length = p.length
  | 0 => rfl
  | k + 1 => by simp [zerN, zerN_len p f k]
theorem setN_at {p : List Int} {f : Nat} {d : Int} {i : Nat} : ∀ {k : Nat}, f + k ≤ p.length → (setN p f d k)[i]? = if f ≤ i ∧ i < f + k then some (d + ((i - f : Nat) : Int)) else p[i]?
  | 0, _ => by rw [if_neg (by omega)]; rfl
  | k + 1, h => by
    show ((setN p f d k).set (f + k) (d + (k : Int)))[i]? = _
    by_cases e : f + k = i
    · subst e
      rw [List.getElem?_set_self (by rw [setN_len]; omega), if_pos (by omega), show f + k - f = k by omega]
    · rw [List.getElem?_set_ne e, setN_at (by omega)]
      by_cases h1 : f ≤ i ∧ i < f + k
      · rw [if_pos h1, if_pos (by omega)]
      · rw [if_neg h1, if_neg (by omega)]
theorem zerN_at {p : List Int} {f : Nat} {i : Nat} : ∀ {k : Nat}, f + k ≤ p.length → (zerN p f k)[i]? = if f ≤ i ∧ i < f + k then some 0 else p[i]?
  | 0, _ => by rw [if_neg (by omega)]; rfl
  | k + 1, h => by
    show ((zerN p f k).set (f + k) 0)[i]? = _
    by_cases e : f + k = i
    · subst e
      rw [List.getElem?_set_self (by rw [zerN_len]; omega), if_pos (by omega)]
    · rw [List.getElem?_set_ne e, zerN_at (by omega)]
      by_cases h1 : f ≤ i ∧ i < f + k
      · rw [if_pos h1, if_pos (by omega)]
      · rw [if_neg h1, if_neg (by omega)]
theorem nz_mem {p : List Int} (hl : p.length = 128) {b : Bl} : b ∈ nz p ↔ ∃ i : Nat, p[i]? = some b.2 ∧ b.2 ≠ 0 ∧ b.1 = (i : Int) := by
  rw [nz, mem_nzF]
  constructor
  · rintro ⟨i, hi, hz, rfl⟩
    obtain ⟨z, hz2⟩ : ∃ z, p[i]? = some z := ⟨_, List.getElem?_eq_getElem (by omega)⟩
    rw [hz2] at hz ⊢
    exact ⟨i, by simpa using hz2, hz, rfl⟩
  · rintro ⟨i, h1, h2, h3⟩
    have hi := (List.getElem?_eq_some_iff.1 h1).1
    exact ⟨i, by omega, by rw [h1]; exact h2, by rw [h1]; exact Prod.ext h3 rfl⟩
/-- What Put wants. -/
def okPut (l : List Ex) (x : Ex) : Prop := vL l ∧ mayE x ∧ ∀ y ∈ l, apartE y x
theorem put_okP {l : List Ex} {f k : Nat} {d : Int} (h : okPut l ((f : Int), d, (k : Int))) : okP (setN (plL l) f d k) := by
  obtain ⟨hv, hm, ha⟩ := h
  have h0 := vL_okP hv
  unfold mayE at hm
  simp only at hm
  have hl : (setN (plL l) f d k).length = 128 := by rw [setN_len]; exact h0.len
  have hat := fun i => setN_at (p := plL l) (f := f) (d := d) (i := i) (k := k) (by rw [plL_len]; omega)
  -- what was there lies apart from what comes
  have hap : ∀ (i : Nat) (z : Int), (plL l)[i]? = some z → z ≠ 0 → ¬(d ≤ z ∧ z < d + (k : Int)) := fun i z hz h0 hc => by
    have hb : ((i : Int), z) ∈ blS l := by rw [← vL_nz hv]; exact (nz_mem (plL_len l)).2 ⟨i, hz, h0, rfl⟩
    obtain ⟨y, hy, hb⟩ := List.mem_flatMap.1 hb
    obtain ⟨j, hj, e⟩ := mem_blE.1 hb
    have e2 := congrArg Prod.snd e
    simp only at e2
    have := ha y hy
    unfold apartE at this
    simp only at this
    omega
  refine ⟨hl, fun b hb => ?_, fun b hb c hc e => ?_⟩
  · obtain ⟨i, h1, h2, h3⟩ := (nz_mem hl).1 hb
    have hi := (List.getElem?_eq_some_iff.1 h1).1
    rw [hat] at h1
    split at h1
    · have e1 := Option.some.inj h1
      omega
    · have := h0.at h1
      omega
  · obtain ⟨i, h1, h2, h3⟩ := (nz_mem hl).1 hb
    obtain ⟨j, g1, g2, g3⟩ := (nz_mem hl).1 hc
    rw [hat] at h1 g1
    by_cases hi : f ≤ i ∧ i < f + k
    · rw [if_pos hi] at h1
      by_cases hj : f ≤ j ∧ j < f + k
      · rw [if_pos hj] at g1
        have e1 := Option.some.inj h1
        have e2 := Option.some.inj g1
        omega
      · rw [if_neg hj] at g1
        have e1 := Option.some.inj h1
        exact absurd ⟨by omega, by omega⟩ (hap j c.2 g1 g2)
    · rw [if_neg hi] at h1
      by_cases hj : f ≤ j ∧ j < f + k
      · rw [if_pos hj] at g1
        have e2 := Option.some.inj g1
        exact absurd ⟨by omega, by omega⟩ (hap i b.2 h1 h2)
      · rw [if_neg hj] at g1
        exact h0.inj b ((nz_mem h0.len).2 ⟨i, h1, h2, h3⟩) c ((nz_mem h0.len).2 ⟨j, g1, g2, g3⟩) e
theorem cut_okP {p : List Int} {f k : Nat} (h0 : okP p) (hf : f + k ≤ 128) : okP (zerN p f k) := by
  have hl : (zerN p f k).length = 128 := by rw [zerN_len]; exact h0.len
  have hat := fun i => zerN_at (p := p) (f := f) (i := i) (k := k) (by rw [h0.len]; omega)
  have hsub : ∀ b ∈ nz (zerN p f k), b ∈ nz p := fun b hb => by
    obtain ⟨i, h1, h2, h3⟩ := (nz_mem hl).1 hb
    rw [hat] at h1
    split at h1
    · exact absurd (Option.some.inj h1).symm h2
    · exact (nz_mem h0.len).2 ⟨i, h1, h2, h3⟩
  exact ⟨hl, fun b hb => h0.bnd b (hsub b hb), fun b hb c hc e => h0.inj b (hsub b hb) c (hsub c hc) e⟩
set_option maxRecDepth 100000 in
set_option maxHeartbeats 8000000 in
theorem put_bad (l : List Ex) (x : Ex) (v : Value) (w : World) (hv : ReadsT eE 3 w v l) (hlen : l.length ≤ 1048576) (h : ¬vL l ∨ ¬mayE x) : Calls Tryd.prog 18 #[v, exV x] w fun e w' => e = .returned (.tuple #[.slice none 0 0, .slice none 0 0, .int .i64 2]) ∧ Below w.heap.size w w' := by
  have q := Below.refl w.heap.size w
  by_cases hl : vL l
  · have hm : ¬mayE x := by
      rcases h with h | h
      · exact absurd hl h
      · exact h
    refine X.fn Tryd.func18 rfl (n := 65) rfl rfl ?_
    refine CC.seq ?_
    refine CC.region ?_
    refine LL.box [Value.int IntKind.i64 x.1, Value.int IntKind.i64 x.2.1, Value.int IntKind.i64 x.2.2] rfl rfl rfl rfl rfl ?_
    intro W2 g3 eg3 r4 z5 b1
    replace hv := hv.up b1
    replace q := q.trans (b1.mono q.size)
    refine LL.val (R.assign rfl rfl) rfl rfl rfl ?_
    refine LL.val (R.assign rfl rfl) rfl rfl rfl ?_
    refine LL.val (R.assign rfl rfl) rfl rfl rfl ?_
    refine LL.nilS ?_
    refine CC.seq ?_
    refine CC.seq ?_
    refine CC.region ?_
    refine LL.val (R.move rfl rfl) rfl rfl rfl ?_
    refine LL.call (R.call rfl rfl rfl) rfl rfl rfl (check_T _ _ _ (by first | assumption | omega) (by first | assumption | omega) (by first | assumption | omega)) ?_
    rintro e W7 ⟨rfl, b6⟩
    refine ⟨_, rfl, ?_⟩
    have zb6 := b6.size
    replace r4 := r4.up b6
    replace b1 := b1.trans (b6.mono b1.size)
    replace hv := hv.up b6
    replace q := q.trans (b6.mono q.size)
    refine LL.val (R.neF rfl rfl rfl (by omega)) rfl rfl rfl ?_
    refine LL.val (R.move rfl rfl) rfl rfl rfl ?_
    refine LL.val (R.load rfl rfl (I.ldNc (vs := [Value.int IntKind.i64 x.1, Value.int IntKind.i64 x.2.1, Value.int IntKind.i64 x.2.2]) (RowL.cells r4 rfl) (by rfl) (by rfl))) rfl rfl rfl ?_
    refine LL.callBF (R.call rfl rfl rfl) rfl rfl rfl (may_any _ _) (by first | assumption | omega) (fun W10 b9 => ?_)
    have zb9 := b9.size
    replace b6 := b6.trans (b9.mono b6.size)
    replace r4 := r4.up b9
    replace b1 := b1.trans (b9.mono b1.size)
    replace hv := hv.up b9
    replace q := q.trans (b9.mono q.size)
    refine LL.val (R.not rfl rfl) rfl rfl rfl ?_
    refine LL.val (R.pick rfl rfl rfl) rfl rfl rfl ?_
    refine LL.nilS ?_
    refine CC.yes rfl ?_
    refine CC.seq ?_
    refine CC.region ?_
    refine LL.val (R.assign rfl rfl) rfl rfl rfl ?_
    refine LL.val (R.assign rfl rfl) rfl rfl rfl ?_
    refine LL.val (R.assign rfl rfl) rfl rfl rfl ?_
    refine LL.nilS ?_
    refine CC.ret ?_
    refine EE.thenR ?_
    refine EE.ret _ rfl rfl ?_
    exact ⟨rfl, q⟩
  · refine X.fn Tryd.func18 rfl (n := 65) rfl rfl ?_
    refine CC.seq ?_
    refine CC.region ?_
    refine LL.box [Value.int IntKind.i64 x.1, Value.int IntKind.i64 x.2.1, Value.int IntKind.i64 x.2.2] rfl rfl rfl rfl rfl ?_
    intro Wa2 ga3 ega3 ra4 za5 ba1
    replace hv := hv.up ba1
    replace q := q.trans (ba1.mono q.size)
    refine LL.val (R.assign rfl rfl) rfl rfl rfl ?_
    refine LL.val (R.assign rfl rfl) rfl rfl rfl ?_
    refine LL.val (R.assign rfl rfl) rfl rfl rfl ?_
    refine LL.nilS ?_
    refine CC.seq ?_
    refine CC.seq ?_
    refine CC.region ?_
    refine LL.val (R.move rfl rfl) rfl rfl rfl ?_
    refine LL.call (R.call rfl rfl rfl) rfl rfl rfl (check_F _ _ _ (by first | assumption | omega) (by first | assumption | omega) (by first | assumption | omega)) ?_
    rintro e Wa7 ⟨rfl, ba6⟩
    refine ⟨_, rfl, ?_⟩
    have zba6 := ba6.size
    replace ra4 := ra4.up ba6
    replace ba1 := ba1.trans (ba6.mono ba1.size)
    replace hv := hv.up ba6
    replace q := q.trans (ba6.mono q.size)
    refine LL.val (R.neT rfl rfl rfl (by omega)) rfl rfl rfl ?_
    refine LL.val (R.move rfl rfl) rfl rfl rfl ?_
    refine LL.skip rfl rfl ?_
    refine LL.skip rfl rfl ?_
    refine LL.skip rfl rfl ?_
    refine LL.val (R.pick rfl rfl rfl) rfl rfl rfl ?_
    refine LL.nilS ?_
    refine CC.yes rfl ?_
    refine CC.seq ?_
    refine CC.region ?_
    refine LL.val (R.assign rfl rfl) rfl rfl rfl ?_
    refine LL.val (R.assign rfl rfl) rfl rfl rfl ?_
    refine LL.val (R.assign rfl rfl) rfl rfl rfl ?_
    refine LL.nilS ?_
    refine CC.ret ?_
    refine EE.thenR ?_
    refine EE.ret _ rfl rfl ?_
    exact ⟨rfl, q⟩
--C extents_may | hmayX @w | DB
--C extents_apart | hapX _ @p @w | DB
set_option maxRecDepth 100000 in
set_option maxHeartbeats 8000000 in
theorem put_any (l : List Ex) (f d k : Nat) (v : Value) (w : World) (hv : ReadsT eE 3 w v l) (hl : vL l) (hm : mayE ((f : Int), (d : Int), (k : Int))) : Calls Tryd.prog 18 #[v, .agg #[.int .i64 (f : Int), .int .i64 (d : Int), .int .i64 (k : Int)]] w fun e w' => ((¬okPut l ((f : Int), (d : Int), (k : Int)) ∧ e = .returned (.tuple #[.slice none 0 0, .slice none 0 0, .int .i64 2])) ∨
    (okPut l ((f : Int), (d : Int), (k : Int)) ∧ 10 < (gat (nz (setN (plL l) f d k))).length ∧ e = .returned (.tuple #[.slice none 0 0, .slice none 0 0, .int .i64 3])) ∨
    (okPut l ((f : Int), (d : Int), (k : Int)) ∧ (gat (nz (setN (plL l) f d k))).length ≤ 10 ∧ ∃ v1 v2, e = .returned (.tuple #[v1, v2, .int .i64 0]) ∧ ReadsT eE 3 w' v1 (gat (nz (setN (plL l) f d k))) ∧ ReadsT rE 2 w' v2 (gatR (dvF (plL l) f k)))) ∧ Below w.heap.size w w' := by
  have q := Below.refl w.heap.size w
  have hlen := hl.1
  obtain ⟨N, hN⟩ : ∃ N, l.length = N := ⟨_, rfl⟩
  rw [hN] at hlen
  obtain ⟨a, cap, rfl, hcap⟩ := hv.form hN
  have hvF : ∀ W, Below w.heap.size w W → ReadsT eE 3 W (.slice a N cap) l := fun W hb => hv.up hb
  have hmu := hm
  unfold mayE at hmu
  simp only at hmu
  have hlt : l.length ≤ 1048576 := by omega
  have hmayX := fun W => may_any ((f : Int), (d : Int), (k : Int)) W
  have hapX := fun y (hy : mayE y) W => apart_any y ((f : Int), (d : Int), (k : Int)) W hy hm
  refine X.fn Tryd.func18 rfl (n := 65) rfl rfl ?_
  refine CC.seq ?_
  refine CC.region ?_
  refine LL.box [Value.int IntKind.i64 ↑f, Value.int IntKind.i64 ↑d, Value.int IntKind.i64 ↑k] rfl rfl rfl rfl rfl ?_
  intro W2 g3 eg3 r4 z5 b1
  replace q := q.trans (b1.mono q.size)
  replace hv := hv.up b1
  refine LL.val (R.assign rfl rfl) rfl rfl rfl ?_
  refine LL.val (R.assign rfl rfl) rfl rfl rfl ?_
  refine LL.val (R.assign rfl rfl) rfl rfl rfl ?_
  refine LL.nilS ?_
  refine CC.seq ?_
  refine CC.seq ?_
  refine CC.region ?_
  refine LL.val (R.move rfl rfl) rfl rfl rfl ?_
  refine LL.call (R.call rfl rfl rfl) rfl rfl rfl (check_T _ _ _ (by first | assumption | omega) (by first | assumption | omega) (by first | assumption | omega)) ?_
  rintro e W7 ⟨rfl, b6⟩
  refine ⟨_, rfl, ?_⟩
  have zb6 := b6.size
  replace r4 := r4.up b6
  replace b1 := b1.trans (b6.mono b1.size)
  replace q := q.trans (b6.mono q.size)
  replace hv := hv.up b6
  refine LL.val (R.neF rfl rfl rfl (by omega)) rfl rfl rfl ?_
  refine LL.val (R.move rfl rfl) rfl rfl rfl ?_
  refine LL.val (R.load rfl rfl (I.ldNc (vs := [Value.int IntKind.i64 ↑f, Value.int IntKind.i64 ↑d, Value.int IntKind.i64 ↑k]) (RowL.cells r4 rfl) (by rfl) (by rfl))) rfl rfl rfl ?_
  refine LL.callBT (R.call rfl rfl rfl) rfl rfl rfl (hmayX _) (by first | assumption | omega) (fun W10 b9 => ?_)
  have zb9 := b9.size
  replace b6 := b6.trans (b9.mono b6.size)
  replace r4 := r4.up b9
  replace b1 := b1.trans (b9.mono b1.size)
  replace q := q.trans (b9.mono q.size)
  replace hv := hv.up b9
  refine LL.val (R.not rfl rfl) rfl rfl rfl ?_
  refine LL.val (R.pick rfl rfl rfl) rfl rfl rfl ?_
  refine LL.nilS ?_
  refine CC.no rfl ?_
  refine CC.skip ?_
  refine EE.thenN ?_
  refine CC.seq ?_
  refine CC.seq ?_
  refine CC.region ?_
  refine LL.val (R.move rfl rfl) rfl rfl rfl ?_
  refine LL.val (R.len rfl rfl rfl rfl) rfl rfl rfl ?_
  refine LL.val (R.move rfl rfl) rfl rfl rfl ?_
  refine LL.nilS ?_
  refine CC.block ?_
  have yq := q.size
  refine CC.loop (α := Nat) (fun i => [(0, .slice a N cap), (3, .pointer (some ⟨g3, 0, none⟩)), (21, .slice a N cap), (22, .int .i64 (N : Int)), (23, .int .i64 (i : Int))]) (fun i W => i ≤ N ∧ Below w.heap.size w W ∧ g3 < W.heap.size ∧ RowL W g3 41 [.int .i64 (f : Int), .int .i64 (d : Int), .int .i64 (k : Int)] ∧ ∀ j y, j < i → l[j]? = some y → apartE y ((f : Int), (d : Int), (k : Int))) (fun i => N - i) 0 ⟨rfl, rfl, rfl, rfl, rfl, trivial⟩ ⟨by omega, q, r4.lt, r4, fun j y h => by omega⟩ ?_
  clear q r4 hv
  rintro i W ⟨hi, q, l3, r4, hap⟩
  show CC none Tryd.prog _ 65 [] (sl [(0, .slice a N cap), (3, .pointer (some ⟨g3, 0, none⟩)), (21, .slice a N cap), (22, .int .i64 (N : Int)), (23, .int .i64 (i : Int))]) _ W
  have yq := q.size
  by_cases hlt : i < N
  case pos =>
    obtain ⟨y, hy⟩ : ∃ y, l[i]? = some y := ⟨_, List.getElem?_eq_getElem (by omega)⟩
    obtain ⟨bk, off, rfl, hbk, hcs⟩ := (hvF W q).get eEnc hy
    have hcs : Cells W ⟨bk, off + i * 3, none⟩ [.int .i64 y.1, .int .i64 y.2.1, .int .i64 y.2.2] := hcs
    have hmy := hl.2.1 y (List.mem_of_getElem? hy)
    by_cases ha : apartE y ((f : Int), (d : Int), (k : Int))
    · have hap' : ∀ j z, j < i + 1 → l[j]? = some z → apartE z ((f : Int), (d : Int), (k : Int)) := fun j z hj hz => by
        by_cases e : j = i
        · subst e; rw [hy] at hz; cases hz; exact ha
        · exact hap j z (by omega) hz
      refine CC.seq ?_
      refine CC.region ?_
      refine LL.val (R.ltT rfl rfl rfl (by omega)) rfl rfl rfl ?_
      refine LL.nilS ?_
      refine CC.seq ?_
      refine CC.yes rfl ?_
      refine CC.skip ?_
      refine EE.thenN ?_
      refine CC.seq ?_
      refine CC.block ?_
      refine CC.seq ?_
      refine CC.region ?_
      refine LL.val (R.index rfl rfl rfl (I.ixS rfl (by omega))) rfl rfl rfl ?_
      refine LL.val (R.load rfl rfl (I.ldNc (by assumption) rfl rfl)) rfl rfl rfl ?_
      have la1 := r4.lt
      refine LL.alloc ([Value.int IntKind.i64 0, Value.int IntKind.i64 0, Value.int IntKind.i64 0]) rfl rfl rfl rfl rfl ?_
      intro Wa3 ga4 ega4 ra5 za6 ba2
      replace q := q.trans (ba2.mono q.size)
      replace r4 := r4.up ba2
      replace hcs := hcs.up ba2
      refine LL.storeN (vs := [Value.int IntKind.i64 y.1, Value.int IntKind.i64 y.2.1, Value.int IntKind.i64 y.2.2]) rfl rfl rfl rfl ra5 (by exact Nat.le_of_ble_eq_true rfl) (ones_of rfl) rfl rfl ?_
      intro Wa8 ra9 ba7 za10
      have hlba7 := ra5.lt
      replace ra9 : RowL Wa8 _ 41 [Value.int IntKind.i64 y.1, Value.int IntKind.i64 y.2.1, Value.int IntKind.i64 y.2.2] := ra9
      clear ra5
      replace ba2 := ba2.grown ba7 ba2.size (by rintro k ⟨⟩; omega)
      replace q := q.grown ba7 q.size (by rintro k ⟨⟩; omega)
      replace r4 := r4.gr ba7 (by have := r4.lt; omega)
      replace hcs := hcs.gr ba7 (by omega)
      have ra5 := ra9
      clear ra9
      refine LL.nilS ?_
      refine CC.seq ?_
      refine CC.region ?_
      refine LL.val (R.load rfl rfl (I.ldNc (vs := [Value.int IntKind.i64 y.1, Value.int IntKind.i64 y.2.1, Value.int IntKind.i64 y.2.2]) (RowL.cells ra5 rfl) (by rfl) (by rfl))) rfl rfl rfl ?_
      refine LL.val (R.load rfl rfl (I.ldNc (vs := [Value.int IntKind.i64 ↑f, Value.int IntKind.i64 ↑d, Value.int IntKind.i64 ↑k]) (RowL.cells r4 rfl) (by rfl) (by rfl))) rfl rfl rfl ?_
      refine LL.callBT (R.call rfl rfl rfl) rfl rfl rfl (hapX _ (by first | assumption | omega) _) (by first | assumption | omega) (fun Wa12 ba11 => ?_)
      have zba11 := ba11.size
      replace ba2 := ba2.trans (ba11.mono ba2.size)
      replace q := q.trans (ba11.mono q.size)
      replace r4 := r4.up ba11
      replace hcs := hcs.up ba11
      replace ra5 := ra5.up ba11
      refine LL.val (R.not rfl rfl) rfl rfl rfl ?_
      refine LL.nilS ?_
      refine CC.no rfl ?_
      refine CC.skip ?_
      refine EE.inN ?_
      refine EE.thenN ?_
      refine CC.region ?_
      refine LL.val (R.addNc rfl rfl rfl rfl (by omega)) rfl rfl rfl ?_
      refine LL.val (R.move rfl rfl) rfl rfl rfl ?_
      refine LL.nil ?_
      exact EE.round (i + 1) ⟨rfl, rfl, rfl, rfl, rfl, trivial⟩ ⟨by omega, q, by omega, r4, hap'⟩ (by omega)
    · have hno : ¬okPut l ((f : Int), (d : Int), (k : Int)) := fun h => ha (h.2.2 y (List.mem_of_getElem? hy))
      refine CC.seq ?_
      refine CC.region ?_
      refine LL.val (R.ltT rfl rfl rfl (by omega)) rfl rfl rfl ?_
      refine LL.nilS ?_
      refine CC.seq ?_
      refine CC.yes rfl ?_
      refine CC.skip ?_
      refine EE.thenN ?_
      refine CC.seq ?_
      refine CC.block ?_
      refine CC.seq ?_
      refine CC.region ?_
      refine LL.val (R.index rfl rfl rfl (I.ixS rfl (by omega))) rfl rfl rfl ?_
      refine LL.val (R.load rfl rfl (I.ldNc (by assumption) rfl rfl)) rfl rfl rfl ?_
      have lb1 := r4.lt
      refine LL.alloc ([Value.int IntKind.i64 0, Value.int IntKind.i64 0, Value.int IntKind.i64 0]) rfl rfl rfl rfl rfl ?_
      intro Wb3 gb4 egb4 rb5 zb6 bb2
      replace q := q.trans (bb2.mono q.size)
      replace r4 := r4.up bb2
      replace hcs := hcs.up bb2
      refine LL.storeN (vs := [Value.int IntKind.i64 y.1, Value.int IntKind.i64 y.2.1, Value.int IntKind.i64 y.2.2]) rfl rfl rfl rfl rb5 (by exact Nat.le_of_ble_eq_true rfl) (ones_of rfl) rfl rfl ?_
      intro Wb8 rb9 bb7 zb10
      have hlbb7 := rb5.lt
      replace rb9 : RowL Wb8 _ 41 [Value.int IntKind.i64 y.1, Value.int IntKind.i64 y.2.1, Value.int IntKind.i64 y.2.2] := rb9
      clear rb5
      replace bb2 := bb2.grown bb7 bb2.size (by rintro k ⟨⟩; omega)
      replace q := q.grown bb7 q.size (by rintro k ⟨⟩; omega)
      replace r4 := r4.gr bb7 (by have := r4.lt; omega)
      replace hcs := hcs.gr bb7 (by omega)
      have rb5 := rb9
      clear rb9
      refine LL.nilS ?_
      refine CC.seq ?_
      refine CC.region ?_
      refine LL.val (R.load rfl rfl (I.ldNc (vs := [Value.int IntKind.i64 y.1, Value.int IntKind.i64 y.2.1, Value.int IntKind.i64 y.2.2]) (RowL.cells rb5 rfl) (by rfl) (by rfl))) rfl rfl rfl ?_
      refine LL.val (R.load rfl rfl (I.ldNc (vs := [Value.int IntKind.i64 ↑f, Value.int IntKind.i64 ↑d, Value.int IntKind.i64 ↑k]) (RowL.cells r4 rfl) (by rfl) (by rfl))) rfl rfl rfl ?_
      refine LL.callBF (R.call rfl rfl rfl) rfl rfl rfl (hapX _ (by first | assumption | omega) _) (by first | assumption | omega) (fun Wb12 bb11 => ?_)
      have zbb11 := bb11.size
      replace bb2 := bb2.trans (bb11.mono bb2.size)
      replace q := q.trans (bb11.mono q.size)
      replace r4 := r4.up bb11
      replace hcs := hcs.up bb11
      replace rb5 := rb5.up bb11
      refine LL.val (R.not rfl rfl) rfl rfl rfl ?_
      refine LL.nilS ?_
      refine CC.yes rfl ?_
      refine CC.seq ?_
      refine CC.region ?_
      refine LL.val (R.assign rfl rfl) rfl rfl rfl ?_
      refine LL.val (R.assign rfl rfl) rfl rfl rfl ?_
      refine LL.val (R.assign rfl rfl) rfl rfl rfl ?_
      refine LL.nilS ?_
      refine CC.ret ?_
      refine EE.inR ?_
      refine EE.thenR ?_
      refine EE.thenR ?_
      refine EE.inR ?_
      refine EE.thenR ?_
      refine EE.ret _ rfl rfl ?_
      exact ⟨.inl ⟨hno, rfl⟩, q⟩
  have hok : okPut l ((f : Int), (d : Int), (k : Int)) := ⟨hl, hm, fun y hy => by
    obtain ⟨j, hj, rfl⟩ := List.mem_iff_getElem.1 hy
    exact hap j _ (by omega) (List.getElem?_eq_getElem hj)⟩
  have hsm := (vL_okP hl).small
  have hpo := put_okP hok
  have hsp := hpo.small
  have hvW := hvF W q
  have hmays := hl.2.1
  have hpl := plL_len l
  clear hap hi
  refine CC.seq ?_
  refine CC.region ?_
  refine LL.val (R.ltF rfl rfl rfl (by omega)) rfl rfl rfl ?_
  refine LL.nilS ?_
  refine CC.seq ?_
  refine CC.no rfl ?_
  refine CC.exit ?_
  refine EE.thenX ?_
  refine EE.thenX ?_
  refine EE.inX ?_
  refine EE.thenN ?_
  refine CC.seq ?_
  refine CC.region ?_
  refine LL.val (R.move rfl rfl) rfl rfl rfl ?_
  refine LL.call (R.call rfl rfl rfl) rfl rfl rfl (spread_any _ _ _ _ _ (by first | assumption | omega) (by first | assumption | omega) (by first | assumption | omega) (by first | assumption | omega)) ?_
  rintro e Wc2 ⟨rfl, bc1⟩
  refine ⟨_, rfl, ?_⟩
  have zbc1 := bc1.size
  replace q := q.trans (bc1.mono q.size)
  replace r4 := r4.up bc1
  replace hvW := hvW.up bc1
  have lc4 := r4.lt
  refine LL.alloc (intsZ .i64 (List.replicate 128 0)) rfl rfl rfl rfl rfl ?_
  intro Wc6 gc7 egc7 rc8 zc9 bc5
  replace bc1 := bc1.trans (bc5.mono bc1.size)
  replace q := q.trans (bc5.mono q.size)
  replace r4 := r4.up bc5
  replace hvW := hvW.up bc5
  refine LL.storeAZ rfl rfl rfl rfl (by first | assumption | exact List.length_replicate | exact plL_len _ | exact plOf_len _ | simp) rc8 (by first | (rw [List.length_map]; exact (by first | assumption | exact List.length_replicate | exact plL_len _ | exact plOf_len _ | simp)) | simp) rfl rfl ?_
  intro Wc11 rc12 bc10 zc13
  have hlbc10 := rc8.lt
  clear rc8
  replace bc5 := bc5.grown bc10 bc5.size (by rintro k ⟨⟩; omega)
  replace bc1 := bc1.grown bc10 bc1.size (by rintro k ⟨⟩; omega)
  replace q := q.grown bc10 q.size (by rintro k ⟨⟩; omega)
  replace r4 := r4.gr bc10 (by have := r4.lt; omega)
  have rc8 := rc12
  clear rc12
  refine LL.nilS ?_
  refine CC.seq ?_
  refine CC.region ?_
  refine LL.val (R.loadZ rfl rfl rc8 rfl rfl (by first | assumption | exact List.length_replicate | exact plL_len _ | exact plOf_len _ | simp)) rfl rfl rfl ?_
  refine LL.val (R.field rfl rfl (I.fld rfl)) rfl rfl rfl ?_
  refine LL.val (R.load rfl rfl (I.ld1 rfl (RowL.cell r4 rfl))) rfl rfl rfl ?_
  refine LL.val (R.field rfl rfl (I.fld rfl)) rfl rfl rfl ?_
  refine LL.val (R.load rfl rfl (I.ld1 rfl (RowL.cell r4 rfl))) rfl rfl rfl ?_
  refine LL.val (R.field rfl rfl (I.fld rfl)) rfl rfl rfl ?_
  refine LL.val (R.load rfl rfl (I.ld1 rfl (RowL.cell r4 rfl))) rfl rfl rfl ?_
  refine LL.val (R.addN rfl rfl rfl (by omega)) rfl rfl rfl ?_
  have y11 := q.size
  have lc7 := rc8.lt
  refine LL.call (R.call rfl rfl rfl) rfl rfl rfl (gone_any (plL l) f k _ hsm (by omega)) ?_
  rintro e W1 ⟨v2, rfl, o2, b1'⟩
  refine ⟨_, rfl, ?_⟩
  obtain ⟨B, hB⟩ : ∃ B, Wc11.heap.size = B := ⟨_, rfl⟩
  have yB := b1'.size
  rw [hB] at o2 yB lc7 y11
  replace q := q.trans (b1'.mono q.size)
  replace r4 := r4.up b1'
  replace rc8 := rc8.up b1'
  have hg39 : g3 ≠ gc7 := by omega
  have hg3B : g3 < B := by omega
  have hwg7 : w.heap.size ≤ gc7 := by omega
  clear b1' hvW
  refine LL.val (R.assign rfl rfl) rfl rfl rfl ?_
  refine LL.nilS ?_
  refine CC.seq ?_
  refine CC.seq ?_
  refine CC.region ?_
  refine LL.val (R.field rfl rfl (I.fld rfl)) rfl rfl rfl ?_
  refine LL.val (R.load rfl rfl (I.ld1 rfl (RowL.cell r4 rfl))) rfl rfl rfl ?_
  refine LL.val (R.move rfl rfl) rfl rfl rfl ?_
  refine LL.nilS ?_
  refine CC.block ?_
  refine CC.loop (α := Nat) (fun i => [(3, .pointer (some ⟨g3, 0, none⟩)), (9, .pointer (some ⟨gc7, 0, none⟩)), (10, v2), (44, .int .i64 (k : Int)), (45, .int .i64 (i : Int))]) (fun i W => i ≤ k ∧ Below w.heap.size w W ∧ B ≤ W.heap.size ∧ RowL W g3 41 [.int .i64 (f : Int), .int .i64 (d : Int), .int .i64 (k : Int)] ∧ RowL W gc7 70 (intsZ .i64 (setN (plL l) f d i)) ∧ OwnsT rE 2 W B 64 v2 (gatR (dvF (plL l) f k))) (fun i => k - i) 0 ⟨rfl, rfl, rfl, rfl, rfl, trivial⟩ ⟨by omega, q, yB, r4, rc8, o2⟩ ?_
  clear q r4 rc8 o2 yB
  rintro j W ⟨hj, q, yB, r4, rc8, o2⟩
  show CC none Tryd.prog _ 65 [] (sl [(3, .pointer (some ⟨g3, 0, none⟩)), (9, .pointer (some ⟨gc7, 0, none⟩)), (10, v2), (44, .int .i64 (k : Int)), (45, .int .i64 (j : Int))]) _ W
  have yq := q.size
  by_cases hjk : j < k
  · have hsl : (setN (plL l) f d j).length = 128 := by rw [setN_len]; exact hpl
    refine CC.seq ?_
    refine CC.region ?_
    refine LL.val (R.ltT rfl rfl rfl (by omega)) rfl rfl rfl ?_
    refine LL.nilS ?_
    refine CC.seq ?_
    refine CC.yes rfl ?_
    refine CC.skip ?_
    refine EE.thenN ?_
    refine CC.seq ?_
    refine CC.block ?_
    refine CC.seq ?_
    refine CC.region ?_
    refine LL.val (R.move rfl rfl) rfl rfl rfl ?_
    refine LL.val (R.assign rfl rfl) rfl rfl rfl ?_
    refine LL.nilS ?_
    refine CC.region ?_
    refine LL.val (R.field rfl rfl (I.fld rfl)) rfl rfl rfl ?_
    refine LL.val (R.load rfl rfl (I.ld1 rfl (RowL.cell r4 rfl))) rfl rfl rfl ?_
    refine LL.val (R.move rfl rfl) rfl rfl rfl ?_
    refine LL.val (R.addN rfl rfl rfl (by omega)) rfl rfl rfl ?_
    refine LL.val (R.field rfl rfl (I.fld rfl)) rfl rfl rfl ?_
    refine LL.val (R.load rfl rfl (I.ld1 rfl (RowL.cell r4 rfl))) rfl rfl rfl ?_
    refine LL.val (R.move rfl rfl) rfl rfl rfl ?_
    refine LL.val (R.addN rfl rfl rfl (by omega)) rfl rfl rfl ?_
    refine LL.val (R.index rfl rfl rfl (I.ixA1 rfl (by omega))) rfl rfl rfl ?_
    refine LL.storeZ rfl rfl (Nat.zero_add _) rfl rfl rc8 (by first | omega | (simp only [List.length_set, List.length_replicate]; omega) | (rw [plOf_len]; omega)) rfl rfl ?_
    intro We2 re3 be1 ze4
    have hlbe1 := rc8.lt
    clear rc8
    replace q := q.grown be1 q.size (by rintro k ⟨⟩; omega)
    replace r4 := r4.gr be1 (by have := r4.lt; omega)
    replace o2 := o2.grown be1 (own_ne o2 (by omega))
    have rc8 := re3
    clear re3
    refine LL.nil ?_
    refine EE.inN ?_
    refine EE.thenN ?_
    refine CC.region ?_
    refine LL.val (R.addNc rfl rfl rfl rfl (by omega)) rfl rfl rfl ?_
    refine LL.val (R.move rfl rfl) rfl rfl rfl ?_
    refine LL.nil ?_
    exact EE.round (j + 1) ⟨rfl, rfl, rfl, rfl, rfl, trivial⟩ ⟨by omega, q, by omega, r4, (by show RowL _ _ _ (intsZ .i64 ((setN (plL l) f d j).set (f + j) ((d : Int) + (j : Int)))); exact rc8), o2⟩ (by omega)
  · obtain rfl : j = k := by omega
    have hsl : (setN (plL l) f d j).length = 128 := hpo.len
    refine CC.seq ?_
    refine CC.region ?_
    refine LL.val (R.ltF rfl rfl rfl (by omega)) rfl rfl rfl ?_
    refine LL.nilS ?_
    refine CC.seq ?_
    refine CC.no rfl ?_
    refine CC.exit ?_
    refine EE.thenX ?_
    refine EE.thenX ?_
    refine EE.inX ?_
    refine EE.thenN ?_
    refine CC.seq ?_
    refine CC.region ?_
    refine LL.val (R.loadZ rfl rfl rc8 rfl rfl (by first | assumption | exact List.length_replicate | exact plL_len _ | exact plOf_len _ | simp)) rfl rfl rfl ?_
    refine LL.call (R.call rfl rfl rfl) rfl rfl rfl (gather_any _ _ hsp) ?_
    rintro e W3 ⟨v1, rfl, o1, b3⟩
    refine ⟨_, rfl, ?_⟩
    have hr1 := o1.reads eEnc
    obtain ⟨n, hn⟩ : ∃ n, (gat (nz (setN (plL l) f d j))).length = n := ⟨_, rfl⟩
    have hr2 := (o2.up b3).reads rEnc
    obtain ⟨a1, c1', rfl, hc1⟩ := hr1.form hn
    have hnl : n ≤ 128 := by have := gat_len (nz (setN (plL l) f d j)); have := nzF_len (setN (plL l) f d j) 128; unfold nz at *; omega
    replace q := q.trans (b3.mono q.size)
    clear o1 o2 b3 r4 rc8
    by_cases h10 : 10 < n
    · refine LL.val (R.assign rfl rfl) rfl rfl rfl ?_
      refine LL.nilS ?_
      refine CC.seq ?_
      refine CC.seq ?_
      refine CC.region ?_
      refine LL.val (R.move rfl rfl) rfl rfl rfl ?_
      refine LL.val (R.len rfl rfl rfl rfl) rfl rfl rfl ?_
      refine LL.val (R.gtT rfl rfl rfl (by omega)) rfl rfl rfl ?_
      refine LL.nilS ?_
      refine CC.yes rfl ?_
      refine CC.seq ?_
      refine CC.region ?_
      refine LL.val (R.assign rfl rfl) rfl rfl rfl ?_
      refine LL.val (R.assign rfl rfl) rfl rfl rfl ?_
      refine LL.val (R.assign rfl rfl) rfl rfl rfl ?_
      refine LL.nilS ?_
      refine CC.ret ?_
      refine EE.thenR ?_
      refine EE.ret _ rfl rfl ?_
      exact ⟨.inr (.inl ⟨hok, by rw [hn]; exact h10, rfl⟩), q⟩
    · refine LL.val (R.assign rfl rfl) rfl rfl rfl ?_
      refine LL.nilS ?_
      refine CC.seq ?_
      refine CC.seq ?_
      refine CC.region ?_
      refine LL.val (R.move rfl rfl) rfl rfl rfl ?_
      refine LL.val (R.len rfl rfl rfl rfl) rfl rfl rfl ?_
      refine LL.val (R.gtF rfl rfl rfl (by omega)) rfl rfl rfl ?_
      refine LL.nilS ?_
      refine CC.no rfl ?_
      refine CC.skip ?_
      refine EE.thenN ?_
      refine CC.seq ?_
      refine CC.region ?_
      refine LL.val (R.move rfl rfl) rfl rfl rfl ?_
      refine LL.val (R.move rfl rfl) rfl rfl rfl ?_
      refine LL.val (R.assign rfl rfl) rfl rfl rfl ?_
      refine LL.val (R.assign rfl rfl) rfl rfl rfl ?_
      refine LL.val (R.assign rfl rfl) rfl rfl rfl ?_
      refine LL.nilS ?_
      refine CC.ret ?_
      refine EE.ret _ rfl rfl ?_
      exact ⟨.inr (.inr ⟨hok, by rw [hn]; omega, _, _, rfl, hr1, hr2⟩), q⟩
set_option maxRecDepth 100000 in
set_option maxHeartbeats 8000000 in
theorem cut_bad (l : List Ex) (b : Int) (v : Value) (w : World) (hv : ReadsT eE 3 w v l) (hlen : l.length ≤ 1048576) (h : ¬vL l ∨ b < 0 ∨ 128 < b) : Calls Tryd.prog 22 #[v, .int .i64 b] w fun e w' => e = .returned (.tuple #[.slice none 0 0, .slice none 0 0, .int .i64 2]) ∧ Below w.heap.size w w' := by
  have q := Below.refl w.heap.size w
  by_cases hl : vL l
  case neg =>
    refine X.fn Tryd.func22 rfl (n := 36) rfl rfl ?_
    refine CC.seq ?_
    refine CC.region ?_
    refine LL.val (R.assign rfl rfl) rfl rfl rfl ?_
    refine LL.val (R.assign rfl rfl) rfl rfl rfl ?_
    refine LL.val (R.assign rfl rfl) rfl rfl rfl ?_
    refine LL.nilS ?_
    refine CC.seq ?_
    refine CC.seq ?_
    refine CC.region ?_
    refine LL.val (R.move rfl rfl) rfl rfl rfl ?_
    refine LL.call (R.call rfl rfl rfl) rfl rfl rfl (check_F _ _ _ (by first | assumption | omega) (by first | assumption | omega) (by first | assumption | omega)) ?_
    rintro e W2 ⟨rfl, b1⟩
    refine ⟨_, rfl, ?_⟩
    have zb1 := b1.size
    replace hv := hv.up b1
    replace q := q.trans (b1.mono q.size)
    refine LL.val (R.neT rfl rfl rfl (by omega)) rfl rfl rfl ?_
    refine LL.val (R.move rfl rfl) rfl rfl rfl ?_
    refine LL.skip rfl rfl ?_
    refine LL.skip rfl rfl ?_
    refine LL.val (R.pick rfl rfl rfl) rfl rfl rfl ?_
    refine LL.val (R.move rfl rfl) rfl rfl rfl ?_
    refine LL.skip rfl rfl ?_
    refine LL.skip rfl rfl ?_
    refine LL.val (R.pick rfl rfl rfl) rfl rfl rfl ?_
    refine LL.nilS ?_
    refine CC.yes rfl ?_
    refine CC.seq ?_
    refine CC.region ?_
    refine LL.val (R.assign rfl rfl) rfl rfl rfl ?_
    refine LL.val (R.assign rfl rfl) rfl rfl rfl ?_
    refine LL.val (R.assign rfl rfl) rfl rfl rfl ?_
    refine LL.nilS ?_
    refine CC.ret ?_
    refine EE.thenR ?_
    refine EE.ret _ rfl rfl ?_
    exact ⟨rfl, q⟩
  by_cases h1 : b < 0
  · refine X.fn Tryd.func22 rfl (n := 36) rfl rfl ?_
    refine CC.seq ?_
    refine CC.region ?_
    refine LL.val (R.assign rfl rfl) rfl rfl rfl ?_
    refine LL.val (R.assign rfl rfl) rfl rfl rfl ?_
    refine LL.val (R.assign rfl rfl) rfl rfl rfl ?_
    refine LL.nilS ?_
    refine CC.seq ?_
    refine CC.seq ?_
    refine CC.region ?_
    refine LL.val (R.move rfl rfl) rfl rfl rfl ?_
    refine LL.call (R.call rfl rfl rfl) rfl rfl rfl (check_T _ _ _ (by first | assumption | omega) (by first | assumption | omega) (by first | assumption | omega)) ?_
    rintro e Wa2 ⟨rfl, ba1⟩
    refine ⟨_, rfl, ?_⟩
    have zba1 := ba1.size
    replace hv := hv.up ba1
    replace q := q.trans (ba1.mono q.size)
    refine LL.val (R.neF rfl rfl rfl (by omega)) rfl rfl rfl ?_
    refine LL.val (R.move rfl rfl) rfl rfl rfl ?_
    refine LL.val (R.move rfl rfl) rfl rfl rfl ?_
    refine LL.val (R.ltT rfl rfl rfl (by omega)) rfl rfl rfl ?_
    refine LL.val (R.pick rfl rfl rfl) rfl rfl rfl ?_
    refine LL.val (R.move rfl rfl) rfl rfl rfl ?_
    refine LL.skip rfl rfl ?_
    refine LL.skip rfl rfl ?_
    refine LL.val (R.pick rfl rfl rfl) rfl rfl rfl ?_
    refine LL.nilS ?_
    refine CC.yes rfl ?_
    refine CC.seq ?_
    refine CC.region ?_
    refine LL.val (R.assign rfl rfl) rfl rfl rfl ?_
    refine LL.val (R.assign rfl rfl) rfl rfl rfl ?_
    refine LL.val (R.assign rfl rfl) rfl rfl rfl ?_
    refine LL.nilS ?_
    refine CC.ret ?_
    refine EE.thenR ?_
    refine EE.ret _ rfl rfl ?_
    exact ⟨rfl, q⟩
  · have h2 : 128 < b := by
      rcases h with h | h | h
      · exact absurd hl h
      · exact absurd h h1
      · exact h
    refine X.fn Tryd.func22 rfl (n := 36) rfl rfl ?_
    refine CC.seq ?_
    refine CC.region ?_
    refine LL.val (R.assign rfl rfl) rfl rfl rfl ?_
    refine LL.val (R.assign rfl rfl) rfl rfl rfl ?_
    refine LL.val (R.assign rfl rfl) rfl rfl rfl ?_
    refine LL.nilS ?_
    refine CC.seq ?_
    refine CC.seq ?_
    refine CC.region ?_
    refine LL.val (R.move rfl rfl) rfl rfl rfl ?_
    refine LL.call (R.call rfl rfl rfl) rfl rfl rfl (check_T _ _ _ (by first | assumption | omega) (by first | assumption | omega) (by first | assumption | omega)) ?_
    rintro e Wb2 ⟨rfl, bb1⟩
    refine ⟨_, rfl, ?_⟩
    have zbb1 := bb1.size
    replace hv := hv.up bb1
    replace q := q.trans (bb1.mono q.size)
    refine LL.val (R.neF rfl rfl rfl (by omega)) rfl rfl rfl ?_
    refine LL.val (R.move rfl rfl) rfl rfl rfl ?_
    refine LL.val (R.move rfl rfl) rfl rfl rfl ?_
    refine LL.val (R.ltF rfl rfl rfl (by omega)) rfl rfl rfl ?_
    refine LL.val (R.pick rfl rfl rfl) rfl rfl rfl ?_
    refine LL.val (R.move rfl rfl) rfl rfl rfl ?_
    refine LL.val (R.move rfl rfl) rfl rfl rfl ?_
    refine LL.val (R.gtT rfl rfl rfl (by omega)) rfl rfl rfl ?_
    refine LL.val (R.pick rfl rfl rfl) rfl rfl rfl ?_
    refine LL.nilS ?_
    refine CC.yes rfl ?_
    refine CC.seq ?_
    refine CC.region ?_
    refine LL.val (R.assign rfl rfl) rfl rfl rfl ?_
    refine LL.val (R.assign rfl rfl) rfl rfl rfl ?_
    refine LL.val (R.assign rfl rfl) rfl rfl rfl ?_
    refine LL.nilS ?_
    refine CC.ret ?_
    refine EE.thenR ?_
    refine EE.ret _ rfl rfl ?_
    exact ⟨rfl, q⟩
set_option maxRecDepth 100000 in
set_option maxHeartbeats 8000000 in
theorem cut_any (l : List Ex) (f : Nat) (v : Value) (w : World) (hv : ReadsT eE 3 w v l) (hl : vL l) (hf : f ≤ 128) : Calls Tryd.prog 22 #[v, .int .i64 (f : Int)] w fun e w' => (∃ v1 v2, e = .returned (.tuple #[v1, v2, .int .i64 0]) ∧ ReadsT eE 3 w' v1 (gat (nz (zerN (plL l) f (128 - f)))) ∧ ReadsT rE 2 w' v2 (gatR (dvF (plL l) f (128 - f)))) ∧ Below w.heap.size w w' := by
  have q := Below.refl w.heap.size w
  have hlen := hl.1
  obtain ⟨N, hN⟩ : ∃ N, l.length = N := ⟨_, rfl⟩
  rw [hN] at hlen
  obtain ⟨a, cap, rfl, hcap⟩ := hv.form hN
  have hlt : l.length ≤ 1048576 := by omega
  have hsm := (vL_okP hl).small
  have hpo := cut_okP (vL_okP hl) (f := f) (k := 128 - f) (by omega)
  have hsp := hpo.small
  have hmays := hl.2.1
  have hpl := plL_len l
  have hNb : N ≤ 1048576 := by omega
  refine X.fn Tryd.func22 rfl (n := 36) rfl rfl ?_
  refine CC.seq ?_
  refine CC.region ?_
  refine LL.val (R.assign rfl rfl) rfl rfl rfl ?_
  refine LL.val (R.assign rfl rfl) rfl rfl rfl ?_
  refine LL.val (R.assign rfl rfl) rfl rfl rfl ?_
  refine LL.nilS ?_
  refine CC.seq ?_
  refine CC.seq ?_
  refine CC.region ?_
  refine LL.val (R.move rfl rfl) rfl rfl rfl ?_
  refine LL.call (R.call rfl rfl rfl) rfl rfl rfl (check_T _ _ _ (by first | assumption | omega) (by first | assumption | omega) (by first | assumption | omega)) ?_
  rintro e W2 ⟨rfl, b1⟩
  refine ⟨_, rfl, ?_⟩
  have zb1 := b1.size
  replace q := q.trans (b1.mono q.size)
  replace hv := hv.up b1
  refine LL.val (R.neF rfl rfl rfl (by omega)) rfl rfl rfl ?_
  refine LL.val (R.move rfl rfl) rfl rfl rfl ?_
  refine LL.val (R.move rfl rfl) rfl rfl rfl ?_
  refine LL.val (R.ltF rfl rfl rfl (by omega)) rfl rfl rfl ?_
  refine LL.val (R.pick rfl rfl rfl) rfl rfl rfl ?_
  refine LL.val (R.move rfl rfl) rfl rfl rfl ?_
  refine LL.val (R.move rfl rfl) rfl rfl rfl ?_
  refine LL.val (R.gtF rfl rfl rfl (by omega)) rfl rfl rfl ?_
  refine LL.val (R.pick rfl rfl rfl) rfl rfl rfl ?_
  refine LL.nilS ?_
  refine CC.no rfl ?_
  refine CC.skip ?_
  refine EE.thenN ?_
  refine CC.seq ?_
  refine CC.region ?_
  refine LL.val (R.move rfl rfl) rfl rfl rfl ?_
  refine LL.call (R.call rfl rfl rfl) rfl rfl rfl (spread_any _ _ _ _ _ (by first | assumption | omega) (by first | assumption | omega) (by first | assumption | omega) (by first | assumption | omega)) ?_
  rintro e W5 ⟨rfl, b4⟩
  refine ⟨_, rfl, ?_⟩
  have zb4 := b4.size
  replace b1 := b1.trans (b4.mono b1.size)
  replace q := q.trans (b4.mono q.size)
  replace hv := hv.up b4
  refine LL.alloc (intsZ .i64 (List.replicate 128 0)) rfl rfl rfl rfl rfl ?_
  intro W8 g9 eg9 r10 z11 b7
  replace b4 := b4.trans (b7.mono b4.size)
  replace b1 := b1.trans (b7.mono b1.size)
  replace q := q.trans (b7.mono q.size)
  replace hv := hv.up b7
  refine LL.storeAZ rfl rfl rfl rfl (by first | assumption | exact List.length_replicate | exact plL_len _ | exact plOf_len _ | simp) r10 (by first | (rw [List.length_map]; exact (by first | assumption | exact List.length_replicate | exact plL_len _ | exact plOf_len _ | simp)) | simp) rfl rfl ?_
  intro W13 r14 b12 z15
  have hlb12 := r10.lt
  clear r10
  replace b7 := b7.grown b12 b7.size (by rintro k ⟨⟩; omega)
  replace b4 := b4.grown b12 b4.size (by rintro k ⟨⟩; omega)
  replace b1 := b1.grown b12 b1.size (by rintro k ⟨⟩; omega)
  replace q := q.grown b12 q.size (by rintro k ⟨⟩; omega)
  have r10 := r14
  clear r14
  refine LL.nilS ?_
  refine CC.seq ?_
  refine CC.region ?_
  refine LL.val (R.loadZ rfl rfl r10 rfl rfl (by first | assumption | exact List.length_replicate | exact plL_len _ | exact plOf_len _ | simp)) rfl rfl rfl ?_
  refine LL.val (R.move rfl rfl) rfl rfl rfl ?_
  have y11 := q.size
  have l9 := r10.lt
  have hgone := gone_any (plL l) f (128 - f) W13 hsm (by omega)
  rw [show f + (128 - f) = 128 by omega] at hgone
  refine LL.call (R.call rfl rfl rfl) rfl rfl rfl hgone ?_
  clear hgone
  rintro e W1 ⟨v2, rfl, o2, b1'⟩
  refine ⟨_, rfl, ?_⟩
  obtain ⟨B, hB⟩ : ∃ B, W13.heap.size = B := ⟨_, rfl⟩
  have yB := b1'.size
  rw [hB] at o2 yB l9 y11
  replace q := q.trans (b1'.mono q.size)
  replace r10 := r10.up b1'
  have hwg7 : w.heap.size ≤ g9 := by omega
  clear b1' hv
  refine LL.val (R.assign rfl rfl) rfl rfl rfl ?_
  refine LL.nilS ?_
  refine CC.seq ?_
  refine CC.seq ?_
  refine CC.region ?_
  refine LL.val (R.move rfl rfl) rfl rfl rfl ?_
  refine LL.val (R.assign rfl rfl) rfl rfl rfl ?_
  refine LL.nilS ?_
  refine CC.block ?_
  refine CC.loop (α := Nat) (fun i => [(7, .pointer (some ⟨g9, 0, none⟩)), (8, v2), (9, .int .i64 ((f + i : Nat) : Int))]) (fun i W => i ≤ 128 - f ∧ Below w.heap.size w W ∧ B ≤ W.heap.size ∧ RowL W g9 70 (intsZ .i64 (zerN (plL l) f i)) ∧ OwnsT rE 2 W B 64 v2 (gatR (dvF (plL l) f (128 - f)))) (fun i => 128 - f - i) 0 ⟨rfl, rfl, rfl, trivial⟩ ⟨by omega, q, yB, r10, o2⟩ ?_
  clear q r10 o2 yB
  rintro j W ⟨hj, q, yB, r10, o2⟩
  show CC none Tryd.prog _ 36 [] (sl [(7, .pointer (some ⟨g9, 0, none⟩)), (8, v2), (9, .int .i64 ((f + j : Nat) : Int))]) _ W
  have yq := q.size
  by_cases hjk : j < 128 - f
  · have hsl : (zerN (plL l) f j).length = 128 := by rw [zerN_len]; exact hpl
    refine CC.seq ?_
    refine CC.seq ?_
    refine CC.region ?_
    refine LL.val (R.move rfl rfl) rfl rfl rfl ?_
    refine LL.val (R.ltT rfl rfl rfl (by omega)) rfl rfl rfl ?_
    refine LL.nilS ?_
    refine CC.yes rfl ?_
    refine CC.skip ?_
    refine EE.thenN ?_
    refine CC.seq ?_
    refine CC.block ?_
    refine CC.region ?_
    refine LL.val (R.move rfl rfl) rfl rfl rfl ?_
    refine LL.val (R.index rfl rfl rfl (I.ixA1 rfl (by omega))) rfl rfl rfl ?_
    refine LL.storeZ rfl rfl (Nat.zero_add _) rfl rfl r10 (by first | omega | (simp only [List.length_set, List.length_replicate]; omega) | (rw [plOf_len]; omega)) rfl rfl ?_
    intro Wb2 rb3 bb1 zb4
    have hlbb1 := r10.lt
    clear r10
    replace q := q.grown bb1 q.size (by rintro k ⟨⟩; omega)
    replace o2 := o2.grown bb1 (own_ne o2 (by omega))
    have r10 := rb3
    clear rb3
    refine LL.nil ?_
    refine EE.inN ?_
    refine EE.thenN ?_
    refine CC.region ?_
    refine LL.val (R.move rfl rfl) rfl rfl rfl ?_
    refine LL.val (R.addNc rfl rfl rfl rfl (by omega)) rfl rfl rfl ?_
    refine LL.val (R.assign rfl rfl) rfl rfl rfl ?_
    refine LL.nil ?_
    exact EE.round (j + 1) ⟨rfl, rfl, rfl, trivial⟩ ⟨by omega, q, by omega, r10, o2⟩ (by omega)
  · obtain rfl : j = 128 - f := by omega
    have hsl : (zerN (plL l) f (128 - f)).length = 128 := hpo.len
    refine CC.seq ?_
    refine CC.seq ?_
    refine CC.region ?_
    refine LL.val (R.move rfl rfl) rfl rfl rfl ?_
    refine LL.val (R.ltF rfl rfl rfl (by omega)) rfl rfl rfl ?_
    refine LL.nilS ?_
    refine CC.no rfl ?_
    refine CC.exit ?_
    refine EE.thenX ?_
    refine EE.thenX ?_
    refine EE.inX ?_
    refine EE.thenN ?_
    refine CC.seq ?_
    refine CC.region ?_
    refine LL.val (R.loadZ rfl rfl r10 rfl rfl (by first | assumption | exact List.length_replicate | exact plL_len _ | exact plOf_len _ | simp)) rfl rfl rfl ?_
    refine LL.call (R.call rfl rfl rfl) rfl rfl rfl (gather_any _ _ hsp) ?_
    rintro e W3 ⟨v1, rfl, o1, b3⟩
    refine ⟨_, rfl, ?_⟩
    have hr1 := o1.reads eEnc
    have hr2 := (o2.up b3).reads rEnc
    replace q := q.trans (b3.mono q.size)
    clear o1 o2 b3 r10
    refine LL.val (R.move rfl rfl) rfl rfl rfl ?_
    refine LL.val (R.assign rfl rfl) rfl rfl rfl ?_
    refine LL.val (R.assign rfl rfl) rfl rfl rfl ?_
    refine LL.val (R.assign rfl rfl) rfl rfl rfl ?_
    refine LL.nilS ?_
    refine CC.ret ?_
    refine EE.ret _ rfl rfl ?_
    exact ⟨⟨_, _, rfl, hr1, hr2⟩, q⟩
end Go.Proofs.YtklfopclaonggaaDoor
