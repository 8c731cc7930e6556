/- extents: what Put and Cut leave: the reckoning. ExtentsHolds: the walk. ExtentsHolds: the walk, where all is done. -/
import Derived.Test.YtklfopclaonggaaDoorEg
namespace Go.Proofs.YtklfopclaonggaaDoor
set_option linter.unusedVariables false
set_option linter.unusedSimpArgs false
open Go.RowKit Go.Shelf
theorem fold_ge : ∀ (s : List Bl) (l : List Ex), l.length ≤ (s.foldl joinE l).length
  | [], _ => Nat.le_refl _
  | b :: s, l => by
    have h1 := fold_ge s (joinE l b)
    have h2 : l.length ≤ (joinE l b).length := by
      rcases snoc_cases l with rfl | ⟨l', a, rfl⟩
      · simp
      · rw [joinE_snoc]; split <;> simp
    simp only [List.foldl_cons]
    omega
theorem gat_pre (s t : List Bl) : (gat s).length ≤ (gat (s ++ t)).length := by
  unfold gat
  rw [List.foldl_append]
  exact fold_ge t _
theorem nzF_pre (p : List Int) (f : Nat) : ∀ k, ∃ t, nzF p (f + k) = nzF p f ++ t
  | 0 => ⟨[], by simp⟩
  | k + 1 => by
    obtain ⟨t, h⟩ := nzF_pre p f k
    exact ⟨t ++ if (p[f + k]?).getD 0 = 0 then [] else [(((f + k : Nat) : Int), (p[f + k]?).getD 0)], by rw [show f + (k + 1) = f + k + 1 by omega, nzF_succ, h, List.append_assoc]⟩
theorem nzF_cong {p p' : List Int} : ∀ {k : Nat}, (∀ i, i < k → p[i]? = p'[i]?) → nzF p k = nzF p' k
  | 0, _ => rfl
  | k + 1, h => by rw [nzF_succ, nzF_succ, nzF_cong fun i hi => h i (by omega), h k (by omega)]
theorem nzF_zero_tail {p : List Int} {f : Nat} : ∀ {k : Nat}, (∀ i, f ≤ i → i < f + k → p[i]? = some 0) → nzF p (f + k) = nzF p f
  | 0, _ => rfl
  | k + 1, h => by
    rw [show f + (k + 1) = f + k + 1 by omega, nzF_succ, nzF_zero_tail fun i h1 h2 => h i h1 (by omega), h (f + k) (by omega) (by omega)]
    simp
theorem nz_cut {p : List Int} {f : Nat} (hp : p.length = 128) (hf : f ≤ 128) : nz (zerN p f (128 - f)) = nzF p f := by
  have hat := fun i => zerN_at (p := p) (f := f) (i := i) (k := 128 - f) (by omega)
  unfold nz
  have : nzF (zerN p f (128 - f)) (f + (128 - f)) = nzF (zerN p f (128 - f)) f := nzF_zero_tail fun i h1 h2 => by rw [hat, if_pos ⟨h1, h2⟩]
  rw [show f + (128 - f) = 128 by omega] at this
  rw [this]
  exact nzF_cong fun i hi => by rw [hat, if_neg (by omega)]
theorem cut_len {p : List Int} {f : Nat} (hp : p.length = 128) (hf : f ≤ 128) : (gat (nz (zerN p f (128 - f)))).length ≤ (gat (nz p)).length := by
  rw [nz_cut hp hf]
  obtain ⟨t, h⟩ := nzF_pre p f (128 - f)
  rw [show f + (128 - f) = 128 by omega] at h
  show _ ≤ (gat (nzF p 128)).length
  rw [h]
  exact gat_pre _ _
theorem cnt_set {p : List Int} {j : Nat} {z : Int} (hz : z ≠ 0) (hj : j < p.length) : ∀ n, (nzF (p.set j z) n).length = (nzF p n).length + if j < n ∧ (p[j]?).getD 0 = 0 then 1 else 0
  | 0 => by simp [nzF_zero]
  | n + 1 => by
    rw [nzF_succ, nzF_succ, List.length_append, List.length_append, cnt_set hz hj n]
    by_cases e : j = n
    · subst e
      rw [List.getElem?_set_self hj]
      by_cases h0 : (p[j]?).getD 0 = 0 <;> simp [h0, hz]
    · rw [List.getElem?_set_ne e]
      have e2 : (j < n ∧ (p[j]?).getD 0 = 0) ↔ (j < n + 1 ∧ (p[j]?).getD 0 = 0) := ⟨fun h => ⟨by omega, h.2⟩, fun h => ⟨by omega, h.2⟩⟩
      have e3 : (if j < n ∧ (p[j]?).getD 0 = 0 then 1 else 0) = (if j < n + 1 ∧ (p[j]?).getD 0 = 0 then 1 else 0) := by simp only [e2]
      rw [e3]
      omega
theorem cnt_put {p : List Int} {f : Nat} {d : Int} (hd : 1 ≤ d) : ∀ {k : Nat}, f + k ≤ 128 → p.length = 128 → (nz (setN p f d k)).length + (dvF p f k).length = (nz p).length + k
  | 0, _, _ => by simp [setN, dvF]
  | k + 1, h, hp => by
    have ih := cnt_put (p := p) (f := f) hd (k := k) (by omega) hp
    have hs := setN_at (p := p) (f := f) (d := d) (i := f + k) (k := k) (by omega)
    rw [if_neg (by omega)] at hs
    have hc := cnt_set (p := setN p f d k) (j := f + k) (z := d + (k : Int)) (by omega) (by rw [setN_len]; omega) 128
    rw [hs] at hc
    show (nzF ((setN p f d k).set (f + k) (d + (k : Int))) 128).length + (dvF p f k ++ if (p[f + k]?).getD 0 = 0 then [] else [(p[f + k]?).getD 0]).length = _
    rw [hc, List.length_append]
    unfold nz at ih ⊢
    by_cases h0 : (p[f + k]?).getD 0 = 0
    · rw [if_pos ⟨by omega, h0⟩, if_pos h0]; simp; omega
    · rw [if_neg (fun h => h0 h.2), if_neg h0]; simp; omega
/-- What is known of all three maps at a block. -/
structure atH (l m c : List Ex) (f d k B : Nat) (i : Nat) (was now thn : Int) : Prop where
  f1 : fndE l (i : Int) = was
  f2 : fndE m (i : Int) = now
  f3 : fndE c (i : Int) = thn
  b1 : 0 ≤ was ∧ was ≤ 4096
  b2 : 0 ≤ now ∧ now ≤ 4096
  inr : f ≤ i ∧ i < f + k → now = (d : Int) + ((i - f : Nat) : Int) ∧ now ≠ 0 ∧ (was ≠ 0 → inR (gatR (dvF (plL l) f k)) was)
  out : ¬(f ≤ i ∧ i < f + k) → now = was ∧ (was ≠ 0 → ¬inR (gatR (dvF (plL l) f k)) was)
  lo : i < B → thn = now
  hi : ¬i < B → thn = 0 ∧ (now ≠ 0 → inR (gatR (dvF (setN (plL l) f d k) B (128 - B))) now)
theorem at_any {l : List Ex} {f d k B : Nat} (h : okPut l ((f : Int), (d : Int), (k : Int))) (hn : (gat (nz (setN (plL l) f d k))).length ≤ 10) (hB : B ≤ 128) {i : Nat} (hi : i < 128) :
    ∃ was now thn : Int, atH l (gat (nz (setN (plL l) f d k))) (gat (nz (zerN (setN (plL l) f d k) B (128 - B)))) f d k B i was now thn := by
  have hm := h.2.1
  unfold mayE at hm
  simp only at hm
  have hp := put_okP h
  have hc := cut_okP hp (f := B) (k := 128 - B) (by omega)
  obtain ⟨v2, p2⟩ := okP_vL hp hn
  obtain ⟨v3, p3⟩ := okP_vL hc (Nat.le_trans (cut_len hp.len hB) hn)
  have hl := vL_okP h.1
  have s1 := fnd_at h.1 hi
  have s2 := fnd_at v2 hi
  have s3 := fnd_at v3 hi
  rw [p2] at s2
  rw [p3] at s3
  have a2 := setN_at (p := plL l) (f := f) (d := (d : Int)) (i := i) (k := k) (by rw [plL_len]; omega)
  have a3 := zerN_at (p := setN (plL l) f d k) (f := B) (i := i) (k := 128 - B) (by rw [hp.len]; omega)
  obtain ⟨was, hw⟩ : ∃ z, (plL l)[i]? = some z := ⟨_, List.getElem?_eq_getElem (by rw [plL_len]; omega)⟩
  obtain ⟨now, hnw⟩ : ∃ z, (setN (plL l) f d k)[i]? = some z := ⟨_, List.getElem?_eq_getElem (by rw [hp.len]; omega)⟩
  have bw := hl.at hw
  have bn := hp.at hnw
  rw [hw] at s1 a2
  rw [hnw] at s2 a2 a3
  refine ⟨was, now, fndE (gat (nz (zerN (setN (plL l) f d k) B (128 - B)))) (i : Int), s1, s2, rfl, by omega, by omega, fun hr => ?_, fun hr => ?_, fun hb => ?_, fun hb => ?_⟩
  · rw [if_pos hr] at a2
    have e := Option.some.inj a2
    refine ⟨e, by omega, fun h0 => inR_gatR.2 (mem_dvF.2 ⟨h0, i - f, by omega, ?_⟩)⟩
    rw [show f + (i - f) = i by omega, hw]
    rfl
  · rw [if_neg hr] at a2
    have e := Option.some.inj a2
    refine ⟨e, fun h0 hin => ?_⟩
    obtain ⟨_, j, hj, ej⟩ := mem_dvF.1 (inR_gatR.1 hin)
    obtain ⟨z, hz⟩ : ∃ z, (plL l)[f + j]? = some z := ⟨_, List.getElem?_eq_getElem (by rw [plL_len]; omega)⟩
    rw [hz] at ej
    simp only [Option.getD_some] at ej
    subst ej
    have := hl.inj ((i : Int), z) ((nz_mem hl.len).2 ⟨i, hw, h0, rfl⟩) (((f + j : Nat) : Int), z) ((nz_mem hl.len).2 ⟨f + j, hz, h0, rfl⟩) rfl
    simp only at this
    omega
  · rw [s3, a3, if_neg (by omega)]
    rfl
  · rw [s3, a3, if_pos (by omega)]
    refine ⟨rfl, fun h0 => inR_gatR.2 (mem_dvF.2 ⟨h0, i - B, by omega, ?_⟩)⟩
    rw [show B + (i - B) = i by omega, hnw]
    rfl
theorem find_T (l : List Ex) (b z : Int) (v : Value) (w : World) (hv : ReadsT eE 3 w v l) (hz : fndE l b = z) (h0 : z ≠ 0) (hlen : l.length ≤ 1048576) : Calls Tryd.prog 11 #[v, .int .i64 b] w fun e w' => e = .returned (.tuple #[.int .i64 z, .bool true]) ∧ Below w.heap.size w w' := by
  have := find_any l b v w hv hlen
  rw [hz, decide_eq_true h0] at this
  exact this
theorem find_0 (l : List Ex) (b : Int) (v : Value) (w : World) (hv : ReadsT eE 3 w v l) (hz : fndE l b = 0) (hlen : l.length ≤ 1048576) : Calls Tryd.prog 11 #[v, .int .i64 b] w fun e w' => e = .returned (.tuple #[.int .i64 0, .bool false]) ∧ Below w.heap.size w w' := by
  have := find_any l b v w hv hlen
  rw [hz, decide_eq_false (by omega)] at this
  exact this
theorem in_T (v : Value) (rs : List Bl) (d : Int) (w : World) (hv : ReadsT rE 2 w v rs) (hi : inR rs d) (hlen : rs.length ≤ 1048576) (hb : ∀ r ∈ rs, litB r) (hd : 0 ≤ d ∧ d ≤ 4096) :
    Calls Tryd.prog 28 #[v, .int .i64 d] w fun e w' => e = .returned (.bool true) ∧ Below w.heap.size w w' :=
  (in_any v rs d w hv hlen hb hd).mono fun e w' ⟨⟨b, he, hb⟩, hw⟩ => ⟨by rw [he, hb.2 hi], hw⟩
theorem in_F (v : Value) (rs : List Bl) (d : Int) (w : World) (hv : ReadsT rE 2 w v rs) (hi : ¬inR rs d) (hlen : rs.length ≤ 1048576) (hb : ∀ r ∈ rs, litB r) (hd : 0 ≤ d ∧ d ≤ 4096) :
    Calls Tryd.prog 28 #[v, .int .i64 d] w fun e w' => e = .returned (.bool false) ∧ Below w.heap.size w w' :=
  (in_any v rs d w hv hlen hb hd).mono fun e w' ⟨⟨b, he, hb⟩, hw⟩ => ⟨by rw [he]; cases b; rfl; exact absurd (hb.1 rfl) hi, hw⟩
set_option maxRecDepth 100000 in
set_option maxHeartbeats 8000000 in
theorem holds_big (l : List Ex) (x : Ex) (B : Int) (v : Value) (w : World) (hs : Start w) (hv : ReadsT eE 3 w v l) (h : 30 < l.length) : Calls Tryd.prog 8 #[v, exV x, .int .i64 B] w fun e w' => e = .returned (.bool true) ∧ Below w.heap.size w w' := by
  have q := Below.refl w.heap.size w
  obtain ⟨N, hN⟩ : ∃ N, l.length = N := ⟨_, rfl⟩
  obtain ⟨a, cap, rfl, hcap⟩ := hv.form hN
  rw [hN] at h
  refine X.fn Tryd.func8 rfl (n := 181) rfl rfl ?_
  refine CC.seq ?_
  refine CC.region ?_
  refine LL.box [Value.int IntKind.i64 x.1, Value.int IntKind.i64 x.2.1, Value.int IntKind.i64 x.2.2] rfl rfl rfl rfl rfl ?_
  intro W2 g3 eg3 r4 z5 b1
  replace hs := hs.up b1
  replace q := q.trans (b1.mono q.size)
  replace hv := hv.up b1
  refine LL.val (R.assign rfl rfl) rfl rfl rfl ?_
  refine LL.nilS ?_
  refine CC.seq ?_
  refine CC.seq ?_
  refine CC.region ?_
  refine LL.val (R.move rfl rfl) rfl rfl rfl ?_
  refine LL.val (R.len rfl rfl rfl rfl) rfl rfl rfl ?_
  refine LL.val (R.gtT rfl rfl rfl (by omega)) rfl rfl rfl ?_
  refine LL.nilS ?_
  refine CC.yes rfl ?_
  refine CC.seq ?_
  refine CC.region ?_
  refine LL.call (R.call rfl rfl rfl) rfl rfl rfl (works_any _ (by first | assumption | omega)) ?_
  rintro e W7 ⟨rfl, b6⟩
  refine ⟨_, rfl, ?_⟩
  have zb6 := b6.size
  replace r4 := r4.up b6
  replace b1 := b1.trans (b6.mono b1.size)
  replace hs := hs.up b6
  replace q := q.trans (b6.mono q.size)
  replace hv := hv.up b6
  refine LL.val (R.assign rfl rfl) rfl rfl rfl ?_
  refine LL.nilS ?_
  refine CC.ret ?_
  refine EE.thenR ?_
  refine EE.ret _ rfl rfl ?_
  exact ⟨rfl, q⟩
--C extents_Put | hputF @w | ⟨rfl, @b⟩
set_option maxRecDepth 100000 in
set_option maxHeartbeats 8000000 in
theorem holds_no (l : List Ex) (x : Ex) (B : Int) (v : Value) (w : World) (hs : Start w) (hv : ReadsT eE 3 w v l) (h : l.length ≤ 30) (hno : ¬okPut l x) : Calls Tryd.prog 8 #[v, exV x, .int .i64 B] w fun e w' => e = .returned (.bool true) ∧ Below w.heap.size w w' := by
  have q := Below.refl w.heap.size w
  obtain ⟨N, hN⟩ : ∃ N, l.length = N := ⟨_, rfl⟩
  obtain ⟨a, cap, rfl, hcap⟩ := hv.form hN
  have hvF : ∀ W, Below w.heap.size w W → ReadsT eE 3 W (.slice a N cap) l := fun W hb => hv.up hb
  refine X.fn Tryd.func8 rfl (n := 181) rfl rfl ?_
  refine CC.seq ?_
  refine CC.region ?_
  refine LL.box [Value.int IntKind.i64 x.1, Value.int IntKind.i64 x.2.1, Value.int IntKind.i64 x.2.2] rfl rfl rfl rfl rfl ?_
  intro W2 g3 eg3 r4 z5 b1
  replace hs := hs.up b1
  replace q := q.trans (b1.mono q.size)
  replace hv := hv.up b1
  refine LL.val (R.assign rfl rfl) rfl rfl rfl ?_
  refine LL.nilS ?_
  refine CC.seq ?_
  refine CC.seq ?_
  refine CC.region ?_
  refine LL.val (R.move rfl rfl) rfl rfl rfl ?_
  refine LL.val (R.len rfl rfl rfl rfl) rfl rfl rfl ?_
  refine LL.val (R.gtF rfl rfl rfl (by omega)) rfl rfl rfl ?_
  refine LL.nilS ?_
  refine CC.no rfl ?_
  refine CC.skip ?_
  refine EE.thenN ?_
  refine CC.seq ?_
  refine CC.region ?_
  refine LL.val (R.move rfl rfl) rfl rfl rfl ?_
  refine LL.val (R.load rfl rfl (I.ldNc (vs := [Value.int IntKind.i64 x.1, Value.int IntKind.i64 x.2.1, Value.int IntKind.i64 x.2.2]) (RowL.cells r4 rfl) (by rfl) (by rfl))) rfl rfl rfl ?_
  refine LL.call (R.call rfl rfl rfl) rfl rfl rfl (put_F x _ _ (hvF _ q) (by omega) hno) ?_
  rintro e W1 ⟨rfl, b1⟩
  refine ⟨_, rfl, ?_⟩
  replace q := q.trans (b1.mono q.size)
  replace hs := hs.up b1
  clear b1
  refine LL.val (R.move rfl rfl) rfl rfl rfl ?_
  refine LL.val (R.extract rfl rfl rfl) rfl rfl rfl ?_
  refine LL.val (R.extract rfl rfl rfl) rfl rfl rfl ?_
  refine LL.val (R.extract rfl rfl rfl) rfl rfl rfl ?_
  refine LL.val (R.assign rfl rfl) rfl rfl rfl ?_
  refine LL.val (R.assign rfl rfl) rfl rfl rfl ?_
  refine LL.val (R.assign rfl rfl) rfl rfl rfl ?_
  refine LL.nilS ?_
  refine CC.seq ?_
  refine CC.seq ?_
  refine CC.region ?_
  refine LL.val (R.move rfl rfl) rfl rfl rfl ?_
  refine LL.call (R.call rfl rfl rfl) rfl rfl rfl (num_any _ _) ?_
  rintro e W' ⟨rfl, rfl⟩
  refine ⟨_, rfl, ?_⟩
  refine LL.val (R.neT rfl rfl rfl (by omega)) rfl rfl rfl ?_
  refine LL.nilS ?_
  refine CC.yes rfl ?_
  refine CC.seq ?_
  refine CC.region ?_
  refine LL.call (R.call rfl rfl rfl) rfl rfl rfl (works_any _ (by first | assumption | omega)) ?_
  rintro e Wa2 ⟨rfl, ba1⟩
  refine ⟨_, rfl, ?_⟩
  have zba1 := ba1.size
  replace q := q.trans (ba1.mono q.size)
  replace hs := hs.up ba1
  refine LL.val (R.assign rfl rfl) rfl rfl rfl ?_
  refine LL.nilS ?_
  refine CC.ret ?_
  refine EE.thenR ?_
  refine EE.ret _ rfl rfl ?_
  exact ⟨rfl, q⟩
set_option maxRecDepth 100000 in
set_option maxHeartbeats 8000000 in
theorem holds_long (l : List Ex) (f d k : Nat) (B : Int) (v : Value) (w : World) (hs : Start w) (hv : ReadsT eE 3 w v l) (h : l.length ≤ 30) (hok : okPut l ((f : Int), (d : Int), (k : Int))) (hn : 10 < (gat (nz (setN (plL l) f d k))).length) : Calls Tryd.prog 8 #[v, .agg #[.int .i64 (f : Int), .int .i64 (d : Int), .int .i64 (k : Int)], .int .i64 B] w fun e w' => e = .returned (.bool true) ∧ Below w.heap.size w w' := by
  have q := Below.refl w.heap.size w
  obtain ⟨N, hN⟩ : ∃ N, l.length = N := ⟨_, rfl⟩
  obtain ⟨a, cap, rfl, hcap⟩ := hv.form hN
  have hvF : ∀ W, Below w.heap.size w W → ReadsT eE 3 W (.slice a N cap) l := fun W hb => hv.up hb
  refine X.fn Tryd.func8 rfl (n := 181) rfl rfl ?_
  refine CC.seq ?_
  refine CC.region ?_
  refine LL.box [Value.int IntKind.i64 ↑f, Value.int IntKind.i64 ↑d, Value.int IntKind.i64 ↑k] rfl rfl rfl rfl rfl ?_
  intro W2 g3 eg3 r4 z5 b1
  replace hs := hs.up b1
  replace q := q.trans (b1.mono q.size)
  replace hv := hv.up b1
  refine LL.val (R.assign rfl rfl) rfl rfl rfl ?_
  refine LL.nilS ?_
  refine CC.seq ?_
  refine CC.seq ?_
  refine CC.region ?_
  refine LL.val (R.move rfl rfl) rfl rfl rfl ?_
  refine LL.val (R.len rfl rfl rfl rfl) rfl rfl rfl ?_
  refine LL.val (R.gtF rfl rfl rfl (by omega)) rfl rfl rfl ?_
  refine LL.nilS ?_
  refine CC.no rfl ?_
  refine CC.skip ?_
  refine EE.thenN ?_
  refine CC.seq ?_
  refine CC.region ?_
  refine LL.val (R.move rfl rfl) rfl rfl rfl ?_
  refine LL.val (R.load rfl rfl (I.ldNc (vs := [Value.int IntKind.i64 ↑f, Value.int IntKind.i64 ↑d, Value.int IntKind.i64 ↑k]) (RowL.cells r4 rfl) (by rfl) (by rfl))) rfl rfl rfl ?_
  refine LL.call (R.call rfl rfl rfl) rfl rfl rfl (put_L _ _ (hvF _ q) hok hn) ?_
  rintro e W1 ⟨rfl, b1⟩
  refine ⟨_, rfl, ?_⟩
  replace q := q.trans (b1.mono q.size)
  replace hs := hs.up b1
  clear b1
  refine LL.val (R.move rfl rfl) rfl rfl rfl ?_
  refine LL.val (R.extract rfl rfl rfl) rfl rfl rfl ?_
  refine LL.val (R.extract rfl rfl rfl) rfl rfl rfl ?_
  refine LL.val (R.extract rfl rfl rfl) rfl rfl rfl ?_
  refine LL.val (R.assign rfl rfl) rfl rfl rfl ?_
  refine LL.val (R.assign rfl rfl) rfl rfl rfl ?_
  refine LL.val (R.assign rfl rfl) rfl rfl rfl ?_
  refine LL.nilS ?_
  refine CC.seq ?_
  refine CC.seq ?_
  refine CC.region ?_
  refine LL.val (R.move rfl rfl) rfl rfl rfl ?_
  refine LL.call (R.call rfl rfl rfl) rfl rfl rfl (num_any _ _) ?_
  rintro e W' ⟨rfl, rfl⟩
  refine ⟨_, rfl, ?_⟩
  refine LL.val (R.neT rfl rfl rfl (by omega)) rfl rfl rfl ?_
  refine LL.nilS ?_
  refine CC.yes rfl ?_
  refine CC.seq ?_
  refine CC.region ?_
  refine LL.call (R.call rfl rfl rfl) rfl rfl rfl (works_any _ (by first | assumption | omega)) ?_
  rintro e Wa2 ⟨rfl, ba1⟩
  refine ⟨_, rfl, ?_⟩
  have zba1 := ba1.size
  replace q := q.trans (ba1.mono q.size)
  replace hs := hs.up ba1
  refine LL.val (R.assign rfl rfl) rfl rfl rfl ?_
  refine LL.nilS ?_
  refine CC.ret ?_
  refine EE.thenR ?_
  refine EE.ret _ rfl rfl ?_
  exact ⟨rfl, q⟩
set_option maxRecDepth 100000 in
set_option maxHeartbeats 8000000 in
theorem holds_cut (l : List Ex) (f d k : Nat) (B : Int) (v : Value) (w : World) (hs : Start w) (hv : ReadsT eE 3 w v l) (h : l.length ≤ 30) (hok : okPut l ((f : Int), (d : Int), (k : Int))) (hn : (gat (nz (setN (plL l) f d k))).length ≤ 10) (hB : B < 0 ∨ 128 < B) : Calls Tryd.prog 8 #[v, .agg #[.int .i64 (f : Int), .int .i64 (d : Int), .int .i64 (k : Int)], .int .i64 B] w fun e w' => e = .returned (.bool true) ∧ Below w.heap.size w w' := by
  have q := Below.refl w.heap.size w
  obtain ⟨N, hN⟩ : ∃ N, l.length = N := ⟨_, rfl⟩
  obtain ⟨a, cap, rfl, hcap⟩ := hv.form hN
  have hvF : ∀ W, Below w.heap.size w W → ReadsT eE 3 W (.slice a N cap) l := fun W hb => hv.up hb
  have hp := hs.pos
  refine X.fn Tryd.func8 rfl (n := 181) rfl rfl ?_
  refine CC.seq ?_
  refine CC.region ?_
  refine LL.box [Value.int IntKind.i64 ↑f, Value.int IntKind.i64 ↑d, Value.int IntKind.i64 ↑k] rfl rfl rfl rfl rfl ?_
  intro W2 g3 eg3 r4 z5 b1
  replace hs := hs.up b1
  replace q := q.trans (b1.mono q.size)
  replace hv := hv.up b1
  refine LL.val (R.assign rfl rfl) rfl rfl rfl ?_
  refine LL.nilS ?_
  refine CC.seq ?_
  refine CC.seq ?_
  refine CC.region ?_
  refine LL.val (R.move rfl rfl) rfl rfl rfl ?_
  refine LL.val (R.len rfl rfl rfl rfl) rfl rfl rfl ?_
  refine LL.val (R.gtF rfl rfl rfl (by omega)) rfl rfl rfl ?_
  refine LL.nilS ?_
  refine CC.no rfl ?_
  refine CC.skip ?_
  refine EE.thenN ?_
  refine CC.seq ?_
  refine CC.region ?_
  refine LL.val (R.move rfl rfl) rfl rfl rfl ?_
  refine LL.val (R.load rfl rfl (I.ldNc (vs := [Value.int IntKind.i64 ↑f, Value.int IntKind.i64 ↑d, Value.int IntKind.i64 ↑k]) (RowL.cells r4 rfl) (by rfl) (by rfl))) rfl rfl rfl ?_
  refine LL.call (R.call rfl rfl rfl) rfl rfl rfl (put_T _ _ (hvF _ q) hok hn) ?_
  rintro e W1 ⟨v1, v2, rfl, h1, h2, b1⟩
  refine ⟨_, rfl, ?_⟩
  replace q := q.trans (b1.mono q.size)
  replace hs := hs.up b1
  clear b1
  refine LL.val (R.move rfl rfl) rfl rfl rfl ?_
  refine LL.val (R.extract rfl rfl rfl) rfl rfl rfl ?_
  refine LL.val (R.extract rfl rfl rfl) rfl rfl rfl ?_
  refine LL.val (R.extract rfl rfl rfl) rfl rfl rfl ?_
  refine LL.val (R.assign rfl rfl) rfl rfl rfl ?_
  refine LL.val (R.assign rfl rfl) rfl rfl rfl ?_
  refine LL.val (R.assign rfl rfl) rfl rfl rfl ?_
  refine LL.nilS ?_
  refine CC.seq ?_
  refine CC.seq ?_
  refine CC.region ?_
  refine LL.val (R.move rfl rfl) rfl rfl rfl ?_
  refine LL.call (R.call rfl rfl rfl) rfl rfl rfl (num_any _ _) ?_
  rintro e W' ⟨rfl, rfl⟩
  refine ⟨_, rfl, ?_⟩
  refine LL.val (R.neF rfl rfl rfl (by omega)) rfl rfl rfl ?_
  refine LL.nilS ?_
  refine CC.no rfl ?_
  refine CC.skip ?_
  refine EE.thenN ?_
  refine CC.seq ?_
  refine CC.region ?_
  refine LL.val (R.move rfl rfl) rfl rfl rfl ?_
  refine LL.val (R.move rfl rfl) rfl rfl rfl ?_
  refine LL.call (R.call rfl rfl rfl) rfl rfl rfl (cut_bad _ B _ _ h1 (by omega) (.inr hB)) ?_
  rintro e W2 ⟨rfl, b2⟩
  refine ⟨_, rfl, ?_⟩
  replace q := q.trans (b2.mono q.size)
  replace hs := hs.up b2
  clear b2
  refine LL.val (R.move rfl rfl) rfl rfl rfl ?_
  refine LL.val (R.extract rfl rfl rfl) rfl rfl rfl ?_
  refine LL.val (R.extract rfl rfl rfl) rfl rfl rfl ?_
  refine LL.val (R.extract rfl rfl rfl) rfl rfl rfl ?_
  refine LL.val (R.assign rfl rfl) rfl rfl rfl ?_
  refine LL.val (R.assign rfl rfl) rfl rfl rfl ?_
  refine LL.val (R.assign rfl rfl) rfl rfl rfl ?_
  refine LL.nilS ?_
  refine CC.seq ?_
  refine CC.seq ?_
  refine CC.region ?_
  refine LL.val (R.move rfl rfl) rfl rfl rfl ?_
  refine LL.call (R.call rfl rfl rfl) rfl rfl rfl (num_any _ _) ?_
  rintro e W' ⟨rfl, rfl⟩
  refine ⟨_, rfl, ?_⟩
  refine LL.val (R.neT rfl rfl rfl (by omega)) rfl rfl rfl ?_
  refine LL.nilS ?_
  refine CC.yes rfl ?_
  refine CC.seq ?_
  refine CC.region ?_
  refine LL.val (R.move rfl rfl) rfl rfl rfl ?_
  refine LL.call (R.call rfl rfl rfl) rfl rfl rfl (num_any _ _) ?_
  rintro e W' ⟨rfl, rfl⟩
  refine ⟨_, rfl, ?_⟩
  refine LL.val (R.eqT rfl rfl rfl (by omega)) rfl rfl rfl ?_
  refine LL.val (R.move rfl rfl) rfl rfl rfl ?_
  refine LL.call (R.call rfl rfl rfl) rfl rfl rfl (works_any _ (by first | assumption | omega)) ?_
  rintro e Wb2 ⟨rfl, bb1⟩
  refine ⟨_, rfl, ?_⟩
  have zbb1 := bb1.size
  replace q := q.trans (bb1.mono q.size)
  replace hs := hs.up bb1
  refine LL.val (R.pick rfl rfl rfl) rfl rfl rfl ?_
  refine LL.val (R.assign rfl rfl) rfl rfl rfl ?_
  refine LL.nilS ?_
  refine CC.ret ?_
  refine EE.thenR ?_
  refine EE.ret _ rfl rfl ?_
  exact ⟨rfl, q⟩
--C extents_Blocks | hbk1 @w b' | ⟨rfl, @b⟩
--C extents_Blocks | hbk2 @w b' | ⟨rfl, @b⟩
--C law06_works | hwkF @w b' | ⟨rfl, @b⟩
--C extents_Find | find_T _ _ _ _ @w @p @p @p @p | ⟨rfl, @b⟩
--C extents_Find | find_0 _ _ _ @w @p @p @p | ⟨rfl, @b⟩
set_option maxRecDepth 100000 in
set_option maxHeartbeats 16000000 in
theorem holds_all (l : List Ex) (f d k B : Nat) (v : Value) (w : World) (hs : Start w) (hv : ReadsT eE 3 w v l) (h : l.length ≤ 30) (hok : okPut l ((f : Int), (d : Int), (k : Int))) (hn : (gat (nz (setN (plL l) f d k))).length ≤ 10) (hB : B ≤ 128) : Calls Tryd.prog 8 #[v, .agg #[.int .i64 (f : Int), .int .i64 (d : Int), .int .i64 (k : Int)], .int .i64 (B : Int)] w fun e w' => e = .returned (.bool true) ∧ Below w.heap.size w w' := by
  have q := Below.refl w.heap.size w
  obtain ⟨N, hN⟩ : ∃ N, l.length = N := ⟨_, rfl⟩
  obtain ⟨a, cap, rfl, hcap⟩ := hv.form hN
  have hvF : ∀ W, Below w.heap.size w W → ReadsT eE 3 W (.slice a N cap) l := fun W hb => hv.up hb
  have hp := hs.pos
  have hm := hok.2.1
  unfold mayE at hm
  simp only at hm
  have hpo := put_okP hok
  have hco := cut_okP hpo (f := B) (k := 128 - B) (by omega)
  obtain ⟨vm, pm⟩ := okP_vL hpo hn
  have hcl := Nat.le_trans (cut_len hpo.len hB) hn
  have hsm := (vL_okP hok.1).small
  have hsp := hpo.small
  refine X.fn Tryd.func8 rfl (n := 181) rfl rfl ?_
  refine CC.seq ?_
  refine CC.region ?_
  refine LL.box [Value.int IntKind.i64 ↑f, Value.int IntKind.i64 ↑d, Value.int IntKind.i64 ↑k] rfl rfl rfl rfl rfl ?_
  intro W2 g3 eg3 r4 z5 b1
  replace hs := hs.up b1
  replace q := q.trans (b1.mono q.size)
  replace hv := hv.up b1
  refine LL.val (R.assign rfl rfl) rfl rfl rfl ?_
  refine LL.nilS ?_
  refine CC.seq ?_
  refine CC.seq ?_
  refine CC.region ?_
  refine LL.val (R.move rfl rfl) rfl rfl rfl ?_
  refine LL.val (R.len rfl rfl rfl rfl) rfl rfl rfl ?_
  refine LL.val (R.gtF rfl rfl rfl (by omega)) rfl rfl rfl ?_
  refine LL.nilS ?_
  refine CC.no rfl ?_
  refine CC.skip ?_
  refine EE.thenN ?_
  refine CC.seq ?_
  refine CC.region ?_
  refine LL.val (R.move rfl rfl) rfl rfl rfl ?_
  refine LL.val (R.load rfl rfl (I.ldNc (vs := [Value.int IntKind.i64 ↑f, Value.int IntKind.i64 ↑d, Value.int IntKind.i64 ↑k]) (RowL.cells r4 rfl) (by rfl) (by rfl))) rfl rfl rfl ?_
  refine LL.call (R.call rfl rfl rfl) rfl rfl rfl (put_T _ _ (hvF _ q) hok hn) ?_
  rintro e W1 ⟨v1, v2, rfl, h1, h2, b1⟩
  refine ⟨_, rfl, ?_⟩
  have y1 := b1.size
  replace q := q.trans (b1.mono q.size)
  replace hs := hs.up b1
  replace r4 := r4.up b1
  replace hv := hv.up b1
  clear b1
  refine LL.val (R.move rfl rfl) rfl rfl rfl ?_
  refine LL.val (R.extract rfl rfl rfl) rfl rfl rfl ?_
  refine LL.val (R.extract rfl rfl rfl) rfl rfl rfl ?_
  refine LL.val (R.extract rfl rfl rfl) rfl rfl rfl ?_
  refine LL.val (R.assign rfl rfl) rfl rfl rfl ?_
  refine LL.val (R.assign rfl rfl) rfl rfl rfl ?_
  refine LL.val (R.assign rfl rfl) rfl rfl rfl ?_
  refine LL.nilS ?_
  refine CC.seq ?_
  refine CC.seq ?_
  refine CC.region ?_
  refine LL.val (R.move rfl rfl) rfl rfl rfl ?_
  refine LL.call (R.call rfl rfl rfl) rfl rfl rfl (num_any _ _) ?_
  rintro e W' ⟨rfl, rfl⟩
  refine ⟨_, rfl, ?_⟩
  refine LL.val (R.neF rfl rfl rfl (by omega)) rfl rfl rfl ?_
  refine LL.nilS ?_
  refine CC.no rfl ?_
  refine CC.skip ?_
  refine EE.thenN ?_
  refine CC.seq ?_
  refine CC.region ?_
  refine LL.val (R.move rfl rfl) rfl rfl rfl ?_
  refine LL.val (R.move rfl rfl) rfl rfl rfl ?_
  have hcut := cut_any _ B v1 W1 h1 vm hB
  rw [pm] at hcut
  refine LL.call (R.call rfl rfl rfl) rfl rfl rfl hcut ?_
  clear hcut
  rintro e W2 ⟨⟨v4, v5, rfl, h4, h5⟩, b2⟩
  refine ⟨_, rfl, ?_⟩
  have y2 := b2.size
  replace q := q.trans (b2.mono q.size)
  replace hs := hs.up b2
  replace r4 := r4.up b2
  replace hv := hv.up b2
  replace h1 := h1.up b2
  replace h2 := h2.up b2
  clear b2
  have hcnt := cnt_put (p := plL l) (f := f) (d := (d : Int)) (by omega) (k := k) (by omega) (plL_len l)
  have hsum := sumR_gatR (dvF (plL l) f k)
  have hat := fun i (hi : i < 128) => at_any hok hn hB hi
  have hlb1 := gatR_lit (dvF_lit hsm f k) (dvF_len (plL l) f k) (by omega)
  have hlb2 := gatR_lit (dvF_lit hsp B (128 - B)) (dvF_len _ B (128 - B)) (by omega)
  have hrl1 : (gatR (dvF (plL l) f k)).length ≤ 1048576 := by have := gatR_len (dvF (plL l) f k); have := dvF_len (plL l) f k; omega
  have hrl2 : (gatR (dvF (setN (plL l) f d k) B (128 - B))).length ≤ 1048576 := by have := gatR_len (dvF (setN (plL l) f d k) B (128 - B)); have := dvF_len (setN (plL l) f d k) B (128 - B); omega
  have hbl : (blS (eL l)).length = (nz (plL l)).length := by rw [eL_T hok.1, vL_nz hok.1]
  have hbm : (blS (eL (gat (nz (setN (plL l) f d k))))).length = (nz (setN (plL l) f d k)).length := by rw [eL_T vm, ← vL_nz vm, pm]
  have hnz1 : (nz (plL l)).length ≤ 128 := nzF_len _ _
  generalize gat (nz (zerN (setN (plL l) f (d : Int) k) B (128 - B))) = c at *
  generalize gat (nz (setN (plL l) f (d : Int) k)) = m at *
  have hvG : ∀ W, Below W2.heap.size W2 W → ReadsT eE 3 W (.slice a N cap) l := fun W hb => hv.up hb
  have h1G : ∀ W, Below W2.heap.size W2 W → ReadsT eE 3 W v1 m := fun W hb => h1.up hb
  have h2G : ∀ W, Below W2.heap.size W2 W → ReadsT rE 2 W v2 (gatR (dvF (plL l) f k)) := fun W hb => h2.up hb
  have h4G : ∀ W, Below W2.heap.size W2 W → ReadsT eE 3 W v4 c := fun W hb => h4.up hb
  have h5G : ∀ W, Below W2.heap.size W2 W → ReadsT rE 2 W v5 (gatR (dvF (setN (plL l) f d k) B (128 - B))) := fun W hb => h5.up hb
  clear hv h1 h2 h4 h5
  have q2 := Below.refl W2.heap.size W2
  refine LL.val (R.move rfl rfl) rfl rfl rfl ?_
  refine LL.val (R.extract rfl rfl rfl) rfl rfl rfl ?_
  refine LL.val (R.extract rfl rfl rfl) rfl rfl rfl ?_
  refine LL.val (R.extract rfl rfl rfl) rfl rfl rfl ?_
  refine LL.val (R.assign rfl rfl) rfl rfl rfl ?_
  refine LL.val (R.assign rfl rfl) rfl rfl rfl ?_
  refine LL.val (R.assign rfl rfl) rfl rfl rfl ?_
  refine LL.nilS ?_
  refine CC.seq ?_
  refine CC.seq ?_
  refine CC.region ?_
  refine LL.val (R.move rfl rfl) rfl rfl rfl ?_
  refine LL.call (R.call rfl rfl rfl) rfl rfl rfl (num_any _ _) ?_
  rintro e W' ⟨rfl, rfl⟩
  refine ⟨_, rfl, ?_⟩
  refine LL.val (R.neF rfl rfl rfl (by omega)) rfl rfl rfl ?_
  refine LL.nilS ?_
  refine CC.no rfl ?_
  refine CC.skip ?_
  refine EE.thenN ?_
  refine CC.seq ?_
  refine CC.seq ?_
  refine CC.region ?_
  refine LL.val (R.assign rfl rfl) rfl rfl rfl ?_
  refine LL.nilS ?_
  refine CC.block ?_
  refine CC.loop (α := Nat) (fun i => [(0, .slice a N cap), (2, .int .i64 (B : Int)), (4, .pointer (some ⟨g3, 0, none⟩)), (7, v1), (8, v2), (10, v4), (11, v5), (13, .int .i64 (i : Int))]) (fun i W => i ≤ 128 ∧ Below w.heap.size w W ∧ Below W2.heap.size W2 W ∧ Start W ∧ RowL W g3 41 [.int .i64 (f : Int), .int .i64 (d : Int), .int .i64 (k : Int)]) (fun i => 128 - i) 0 ⟨rfl, rfl, rfl, rfl, rfl, rfl, rfl, rfl, trivial⟩ ⟨by omega, q, q2, hs, r4⟩ ?_
  clear q q2 hs r4
  rintro i W ⟨hi, q, q2, hs, r4⟩
  show CC none Tryd.prog _ 181 [] (sl [(0, .slice a N cap), (2, .int .i64 (B : Int)), (4, .pointer (some ⟨g3, 0, none⟩)), (7, v1), (8, v2), (10, v4), (11, v5), (13, .int .i64 (i : Int))]) _ W
  have hv := hvG W q2
  have h1 := h1G W q2
  have h2 := h2G W q2
  have h4 := h4G W q2
  have h5 := h5G W q2
  by_cases hlt : i < 128
  case pos =>
    obtain ⟨was, now, thn, f1, f2, f3, b1, b2, hin, hout, hlo, hhi⟩ := hat i hlt
    clear hat hcnt hsum hbl hbm
    by_cases hr : f ≤ i ∧ i < f + k
    · obtain ⟨e1, n0, h3⟩ := hin hr
      clear hin hout
      by_cases w0 : was = 0
      · rw [w0] at f1
        by_cases hb : i < B
        · rw [hlo hb] at f3
          clear hlo hhi h3
          refine CC.seq ?_
          refine CC.seq ?_
          refine CC.region ?_
          refine LL.val (R.move rfl rfl) rfl rfl rfl ?_
          refine LL.val (R.ltT rfl rfl rfl (by omega)) rfl rfl rfl ?_
          refine LL.nilS ?_
          refine CC.yes rfl ?_
          refine CC.skip ?_
          refine EE.thenN ?_
          refine CC.seq ?_
          refine CC.block ?_
          refine CC.seq ?_
          refine CC.region ?_
          refine LL.val (R.move rfl rfl) rfl rfl rfl ?_
          refine LL.val (R.move rfl rfl) rfl rfl rfl ?_
          refine LL.call (R.call rfl rfl rfl) rfl rfl rfl (find_0 _ _ _ _ (by first | assumption | omega) (by first | assumption | omega) (by first | assumption | omega)) ?_
          rintro e Wc2 ⟨rfl, bc1⟩
          refine ⟨_, rfl, ?_⟩
          have zbc1 := bc1.size
          replace q := q.trans (bc1.mono q.size)
          replace q2 := q2.trans (bc1.mono q2.size)
          replace hs := hs.up bc1
          replace r4 := r4.up bc1
          replace hv := hv.up bc1
          replace h1 := h1.up bc1
          replace h2 := h2.up bc1
          replace h4 := h4.up bc1
          replace h5 := h5.up bc1
          refine LL.val (R.move rfl rfl) rfl rfl rfl ?_
          refine LL.val (R.extract rfl rfl rfl) rfl rfl rfl ?_
          refine LL.val (R.extract rfl rfl rfl) rfl rfl rfl ?_
          refine LL.val (R.assign rfl rfl) rfl rfl rfl ?_
          refine LL.val (R.assign rfl rfl) rfl rfl rfl ?_
          refine LL.nilS ?_
          refine CC.seq ?_
          refine CC.region ?_
          refine LL.val (R.move rfl rfl) rfl rfl rfl ?_
          refine LL.val (R.move rfl rfl) rfl rfl rfl ?_
          refine LL.call (R.call rfl rfl rfl) rfl rfl rfl (find_T _ _ _ _ _ (by first | assumption | omega) (by first | assumption | omega) (by first | assumption | omega) (by first | assumption | omega)) ?_
          rintro e Wc5 ⟨rfl, bc4⟩
          refine ⟨_, rfl, ?_⟩
          have zbc4 := bc4.size
          replace bc1 := bc1.trans (bc4.mono bc1.size)
          replace q := q.trans (bc4.mono q.size)
          replace q2 := q2.trans (bc4.mono q2.size)
          replace hs := hs.up bc4
          replace r4 := r4.up bc4
          replace hv := hv.up bc4
          replace h1 := h1.up bc4
          replace h2 := h2.up bc4
          replace h4 := h4.up bc4
          replace h5 := h5.up bc4
          refine LL.val (R.move rfl rfl) rfl rfl rfl ?_
          refine LL.val (R.extract rfl rfl rfl) rfl rfl rfl ?_
          refine LL.val (R.extract rfl rfl rfl) rfl rfl rfl ?_
          refine LL.val (R.assign rfl rfl) rfl rfl rfl ?_
          refine LL.val (R.assign rfl rfl) rfl rfl rfl ?_
          refine LL.nilS ?_
          refine CC.seq ?_
          refine CC.region ?_
          refine LL.val (R.move rfl rfl) rfl rfl rfl ?_
          refine LL.val (R.move rfl rfl) rfl rfl rfl ?_
          refine LL.call (R.call rfl rfl rfl) rfl rfl rfl (find_T _ _ _ _ _ (by first | assumption | omega) (by first | assumption | omega) (by first | assumption | omega) (by first | assumption | omega)) ?_
          rintro e Wc8 ⟨rfl, bc7⟩
          refine ⟨_, rfl, ?_⟩
          have zbc7 := bc7.size
          replace bc4 := bc4.trans (bc7.mono bc4.size)
          replace bc1 := bc1.trans (bc7.mono bc1.size)
          replace q := q.trans (bc7.mono q.size)
          replace q2 := q2.trans (bc7.mono q2.size)
          replace hs := hs.up bc7
          replace r4 := r4.up bc7
          replace hv := hv.up bc7
          replace h1 := h1.up bc7
          replace h2 := h2.up bc7
          replace h4 := h4.up bc7
          replace h5 := h5.up bc7
          refine LL.val (R.move rfl rfl) rfl rfl rfl ?_
          refine LL.val (R.extract rfl rfl rfl) rfl rfl rfl ?_
          refine LL.val (R.extract rfl rfl rfl) rfl rfl rfl ?_
          refine LL.val (R.assign rfl rfl) rfl rfl rfl ?_
          refine LL.val (R.assign rfl rfl) rfl rfl rfl ?_
          refine LL.nilS ?_
          refine CC.seq ?_
          refine CC.seq ?_
          refine CC.region ?_
          refine LL.val (R.move rfl rfl) rfl rfl rfl ?_
          refine LL.val (R.field rfl rfl (I.fld rfl)) rfl rfl rfl ?_
          refine LL.val (R.load rfl rfl (I.ld1 rfl (RowL.cell r4 rfl))) rfl rfl rfl ?_
          refine LL.val (R.geT rfl rfl rfl (by omega)) rfl rfl rfl ?_
          refine LL.val (R.move rfl rfl) rfl rfl rfl ?_
          refine LL.val (R.move rfl rfl) rfl rfl rfl ?_
          refine LL.val (R.field rfl rfl (I.fld rfl)) rfl rfl rfl ?_
          refine LL.val (R.load rfl rfl (I.ld1 rfl (RowL.cell r4 rfl))) rfl rfl rfl ?_
          refine LL.val (R.subN rfl rfl rfl (by omega) (by omega)) rfl rfl rfl ?_
          refine LL.val (R.field rfl rfl (I.fld rfl)) rfl rfl rfl ?_
          refine LL.val (R.load rfl rfl (I.ld1 rfl (RowL.cell r4 rfl))) rfl rfl rfl ?_
          refine LL.val (R.ltT rfl rfl rfl (by omega)) rfl rfl rfl ?_
          refine LL.val (R.pick rfl rfl rfl) rfl rfl rfl ?_
          refine LL.nilS ?_
          refine CC.yes rfl ?_
          refine CC.seq ?_
          refine CC.region ?_
          refine LL.val (R.move rfl rfl) rfl rfl rfl ?_
          refine LL.val (R.not rfl rfl) rfl rfl rfl ?_
          refine LL.val (R.move rfl rfl) rfl rfl rfl ?_
          refine LL.val (R.move rfl rfl) rfl rfl rfl ?_
          refine LL.val (R.field rfl rfl (I.fld rfl)) rfl rfl rfl ?_
          refine LL.val (R.load rfl rfl (I.ld1 rfl (RowL.cell r4 rfl))) rfl rfl rfl ?_
          refine LL.val (R.move rfl rfl) rfl rfl rfl ?_
          refine LL.val (R.addN rfl rfl rfl (by omega)) rfl rfl rfl ?_
          refine LL.val (R.field rfl rfl (I.fld rfl)) rfl rfl rfl ?_
          refine LL.val (R.load rfl rfl (I.ld1 rfl (RowL.cell r4 rfl))) rfl rfl rfl ?_
          refine LL.val (R.subN rfl rfl rfl (by omega) (by omega)) rfl rfl rfl ?_
          refine LL.val (R.neF rfl rfl rfl (by omega)) rfl rfl rfl ?_
          refine LL.val (R.pick rfl rfl rfl) rfl rfl rfl ?_
          refine LL.val (R.move rfl rfl) rfl rfl rfl ?_
          refine LL.val (R.move rfl rfl) rfl rfl rfl ?_
          refine LL.val (R.move rfl rfl) rfl rfl rfl ?_
          refine LL.skip rfl rfl ?_
          refine LL.skip rfl rfl ?_
          refine LL.skip rfl rfl ?_
          refine LL.skip rfl rfl ?_
          refine LL.val (R.pick rfl rfl rfl) rfl rfl rfl ?_
          refine LL.val (R.pick rfl rfl rfl) rfl rfl rfl ?_
          refine LL.nilS ?_
          refine CC.no rfl ?_
          refine CC.skip ?_
          refine EE.thenN ?_
          refine CC.seq ?_
          refine CC.region ?_
          refine LL.val (R.move rfl rfl) rfl rfl rfl ?_
          refine LL.val (R.move rfl rfl) rfl rfl rfl ?_
          refine LL.val (R.move rfl rfl) rfl rfl rfl ?_
          refine LL.val (R.move rfl rfl) rfl rfl rfl ?_
          refine LL.val (R.move rfl rfl) rfl rfl rfl ?_
          refine LL.val (R.ltT rfl rfl rfl (by omega)) rfl rfl rfl ?_
          refine LL.val (R.pick rfl rfl rfl) rfl rfl rfl ?_
          refine LL.val (R.neBool rfl rfl rfl rfl rfl) rfl rfl rfl ?_
          refine LL.val (R.move rfl rfl) rfl rfl rfl ?_
          refine LL.val (R.move rfl rfl) rfl rfl rfl ?_
          refine LL.val (R.move rfl rfl) rfl rfl rfl ?_
          refine LL.val (R.move rfl rfl) rfl rfl rfl ?_
          refine LL.val (R.move rfl rfl) rfl rfl rfl ?_
          refine LL.val (R.neF rfl rfl rfl (by omega)) rfl rfl rfl ?_
          refine LL.val (R.pick rfl rfl rfl) rfl rfl rfl ?_
          refine LL.val (R.pick rfl rfl rfl) rfl rfl rfl ?_
          refine LL.val (R.move rfl rfl) rfl rfl rfl ?_
          refine LL.val (R.move rfl rfl) rfl rfl rfl ?_
          refine LL.val (R.move rfl rfl) rfl rfl rfl ?_
          refine LL.val (R.move rfl rfl) rfl rfl rfl ?_
          refine LL.val (R.not rfl rfl) rfl rfl rfl ?_
          refine LL.val (R.pick rfl rfl rfl) rfl rfl rfl ?_
          refine LL.val (R.move rfl rfl) rfl rfl rfl ?_
          refine LL.skip rfl rfl ?_
          refine LL.skip rfl rfl ?_
          refine LL.skip rfl rfl ?_
          refine LL.skip rfl rfl ?_
          refine LL.val (R.pick rfl rfl rfl) rfl rfl rfl ?_
          refine LL.val (R.pick rfl rfl rfl) rfl rfl rfl ?_
          refine LL.nilS ?_
          refine CC.no rfl ?_
          refine CC.skip ?_
          refine EE.inN ?_
          refine EE.thenN ?_
          refine CC.region ?_
          refine LL.val (R.move rfl rfl) rfl rfl rfl ?_
          refine LL.val (R.addNc rfl rfl rfl rfl (by omega)) rfl rfl rfl ?_
          refine LL.val (R.assign rfl rfl) rfl rfl rfl ?_
          refine LL.nil ?_
          exact EE.round (i + 1) ⟨rfl, rfl, rfl, rfl, rfl, rfl, rfl, rfl, trivial⟩ ⟨by omega, q, q2, hs, r4⟩ (by omega)
        · obtain ⟨e3, hi3⟩ := hhi hb
          have hi4 := hi3 n0
          rw [e3] at f3
          clear hlo hhi h3 hi3
          refine CC.seq ?_
          refine CC.seq ?_
          refine CC.region ?_
          refine LL.val (R.move rfl rfl) rfl rfl rfl ?_
          refine LL.val (R.ltT rfl rfl rfl (by omega)) rfl rfl rfl ?_
          refine LL.nilS ?_
          refine CC.yes rfl ?_
          refine CC.skip ?_
          refine EE.thenN ?_
          refine CC.seq ?_
          refine CC.block ?_
          refine CC.seq ?_
          refine CC.region ?_
          refine LL.val (R.move rfl rfl) rfl rfl rfl ?_
          refine LL.val (R.move rfl rfl) rfl rfl rfl ?_
          refine LL.call (R.call rfl rfl rfl) rfl rfl rfl (find_0 _ _ _ _ (by first | assumption | omega) (by first | assumption | omega) (by first | assumption | omega)) ?_
          rintro e Wd2 ⟨rfl, bd1⟩
          refine ⟨_, rfl, ?_⟩
          have zbd1 := bd1.size
          replace q := q.trans (bd1.mono q.size)
          replace q2 := q2.trans (bd1.mono q2.size)
          replace hs := hs.up bd1
          replace r4 := r4.up bd1
          replace hv := hv.up bd1
          replace h1 := h1.up bd1
          replace h2 := h2.up bd1
          replace h4 := h4.up bd1
          replace h5 := h5.up bd1
          refine LL.val (R.move rfl rfl) rfl rfl rfl ?_
          refine LL.val (R.extract rfl rfl rfl) rfl rfl rfl ?_
          refine LL.val (R.extract rfl rfl rfl) rfl rfl rfl ?_
          refine LL.val (R.assign rfl rfl) rfl rfl rfl ?_
          refine LL.val (R.assign rfl rfl) rfl rfl rfl ?_
          refine LL.nilS ?_
          refine CC.seq ?_
          refine CC.region ?_
          refine LL.val (R.move rfl rfl) rfl rfl rfl ?_
          refine LL.val (R.move rfl rfl) rfl rfl rfl ?_
          refine LL.call (R.call rfl rfl rfl) rfl rfl rfl (find_T _ _ _ _ _ (by first | assumption | omega) (by first | assumption | omega) (by first | assumption | omega) (by first | assumption | omega)) ?_
          rintro e Wd5 ⟨rfl, bd4⟩
          refine ⟨_, rfl, ?_⟩
          have zbd4 := bd4.size
          replace bd1 := bd1.trans (bd4.mono bd1.size)
          replace q := q.trans (bd4.mono q.size)
          replace q2 := q2.trans (bd4.mono q2.size)
          replace hs := hs.up bd4
          replace r4 := r4.up bd4
          replace hv := hv.up bd4
          replace h1 := h1.up bd4
          replace h2 := h2.up bd4
          replace h4 := h4.up bd4
          replace h5 := h5.up bd4
          refine LL.val (R.move rfl rfl) rfl rfl rfl ?_
          refine LL.val (R.extract rfl rfl rfl) rfl rfl rfl ?_
          refine LL.val (R.extract rfl rfl rfl) rfl rfl rfl ?_
          refine LL.val (R.assign rfl rfl) rfl rfl rfl ?_
          refine LL.val (R.assign rfl rfl) rfl rfl rfl ?_
          refine LL.nilS ?_
          refine CC.seq ?_
          refine CC.region ?_
          refine LL.val (R.move rfl rfl) rfl rfl rfl ?_
          refine LL.val (R.move rfl rfl) rfl rfl rfl ?_
          refine LL.call (R.call rfl rfl rfl) rfl rfl rfl (find_0 _ _ _ _ (by first | assumption | omega) (by first | assumption | omega) (by first | assumption | omega)) ?_
          rintro e Wd8 ⟨rfl, bd7⟩
          refine ⟨_, rfl, ?_⟩
          have zbd7 := bd7.size
          replace bd4 := bd4.trans (bd7.mono bd4.size)
          replace bd1 := bd1.trans (bd7.mono bd1.size)
          replace q := q.trans (bd7.mono q.size)
          replace q2 := q2.trans (bd7.mono q2.size)
          replace hs := hs.up bd7
          replace r4 := r4.up bd7
          replace hv := hv.up bd7
          replace h1 := h1.up bd7
          replace h2 := h2.up bd7
          replace h4 := h4.up bd7
          replace h5 := h5.up bd7
          refine LL.val (R.move rfl rfl) rfl rfl rfl ?_
          refine LL.val (R.extract rfl rfl rfl) rfl rfl rfl ?_
          refine LL.val (R.extract rfl rfl rfl) rfl rfl rfl ?_
          refine LL.val (R.assign rfl rfl) rfl rfl rfl ?_
          refine LL.val (R.assign rfl rfl) rfl rfl rfl ?_
          refine LL.nilS ?_
          refine CC.seq ?_
          refine CC.seq ?_
          refine CC.region ?_
          refine LL.val (R.move rfl rfl) rfl rfl rfl ?_
          refine LL.val (R.field rfl rfl (I.fld rfl)) rfl rfl rfl ?_
          refine LL.val (R.load rfl rfl (I.ld1 rfl (RowL.cell r4 rfl))) rfl rfl rfl ?_
          refine LL.val (R.geT rfl rfl rfl (by omega)) rfl rfl rfl ?_
          refine LL.val (R.move rfl rfl) rfl rfl rfl ?_
          refine LL.val (R.move rfl rfl) rfl rfl rfl ?_
          refine LL.val (R.field rfl rfl (I.fld rfl)) rfl rfl rfl ?_
          refine LL.val (R.load rfl rfl (I.ld1 rfl (RowL.cell r4 rfl))) rfl rfl rfl ?_
          refine LL.val (R.subN rfl rfl rfl (by omega) (by omega)) rfl rfl rfl ?_
          refine LL.val (R.field rfl rfl (I.fld rfl)) rfl rfl rfl ?_
          refine LL.val (R.load rfl rfl (I.ld1 rfl (RowL.cell r4 rfl))) rfl rfl rfl ?_
          refine LL.val (R.ltT rfl rfl rfl (by omega)) rfl rfl rfl ?_
          refine LL.val (R.pick rfl rfl rfl) rfl rfl rfl ?_
          refine LL.nilS ?_
          refine CC.yes rfl ?_
          refine CC.seq ?_
          refine CC.region ?_
          refine LL.val (R.move rfl rfl) rfl rfl rfl ?_
          refine LL.val (R.not rfl rfl) rfl rfl rfl ?_
          refine LL.val (R.move rfl rfl) rfl rfl rfl ?_
          refine LL.val (R.move rfl rfl) rfl rfl rfl ?_
          refine LL.val (R.field rfl rfl (I.fld rfl)) rfl rfl rfl ?_
          refine LL.val (R.load rfl rfl (I.ld1 rfl (RowL.cell r4 rfl))) rfl rfl rfl ?_
          refine LL.val (R.move rfl rfl) rfl rfl rfl ?_
          refine LL.val (R.addN rfl rfl rfl (by omega)) rfl rfl rfl ?_
          refine LL.val (R.field rfl rfl (I.fld rfl)) rfl rfl rfl ?_
          refine LL.val (R.load rfl rfl (I.ld1 rfl (RowL.cell r4 rfl))) rfl rfl rfl ?_
          refine LL.val (R.subN rfl rfl rfl (by omega) (by omega)) rfl rfl rfl ?_
          refine LL.val (R.neF rfl rfl rfl (by omega)) rfl rfl rfl ?_
          refine LL.val (R.pick rfl rfl rfl) rfl rfl rfl ?_
          refine LL.val (R.move rfl rfl) rfl rfl rfl ?_
          refine LL.val (R.move rfl rfl) rfl rfl rfl ?_
          refine LL.val (R.move rfl rfl) rfl rfl rfl ?_
          refine LL.skip rfl rfl ?_
          refine LL.skip rfl rfl ?_
          refine LL.skip rfl rfl ?_
          refine LL.skip rfl rfl ?_
          refine LL.val (R.pick rfl rfl rfl) rfl rfl rfl ?_
          refine LL.val (R.pick rfl rfl rfl) rfl rfl rfl ?_
          refine LL.nilS ?_
          refine CC.no rfl ?_
          refine CC.skip ?_
          refine EE.thenN ?_
          refine CC.seq ?_
          refine CC.region ?_
          refine LL.val (R.move rfl rfl) rfl rfl rfl ?_
          refine LL.val (R.move rfl rfl) rfl rfl rfl ?_
          refine LL.val (R.move rfl rfl) rfl rfl rfl ?_
          refine LL.val (R.move rfl rfl) rfl rfl rfl ?_
          refine LL.val (R.move rfl rfl) rfl rfl rfl ?_
          refine LL.val (R.ltF rfl rfl rfl (by omega)) rfl rfl rfl ?_
          refine LL.val (R.pick rfl rfl rfl) rfl rfl rfl ?_
          refine LL.val (R.neBool rfl rfl rfl rfl rfl) rfl rfl rfl ?_
          refine LL.val (R.move rfl rfl) rfl rfl rfl ?_
          refine LL.val (R.move rfl rfl) rfl rfl rfl ?_
          refine LL.val (R.move rfl rfl) rfl rfl rfl ?_
          refine LL.skip rfl rfl ?_
          refine LL.skip rfl rfl ?_
          refine LL.skip rfl rfl ?_
          refine LL.val (R.pick rfl rfl rfl) rfl rfl rfl ?_
          refine LL.val (R.pick rfl rfl rfl) rfl rfl rfl ?_
          refine LL.val (R.move rfl rfl) rfl rfl rfl ?_
          refine LL.val (R.move rfl rfl) rfl rfl rfl ?_
          refine LL.val (R.move rfl rfl) rfl rfl rfl ?_
          refine LL.val (R.move rfl rfl) rfl rfl rfl ?_
          refine LL.val (R.not rfl rfl) rfl rfl rfl ?_
          refine LL.val (R.pick rfl rfl rfl) rfl rfl rfl ?_
          refine LL.val (R.move rfl rfl) rfl rfl rfl ?_
          refine LL.val (R.move rfl rfl) rfl rfl rfl ?_
          refine LL.val (R.move rfl rfl) rfl rfl rfl ?_
          refine LL.call (R.call rfl rfl rfl) rfl rfl rfl (in_T _ _ _ _ (by first | assumption | omega) (by first | assumption | omega) (by first | assumption | omega) (by first | assumption | omega) (by first | assumption | omega)) ?_
          rintro e Wd11 ⟨rfl, bd10⟩
          refine ⟨_, rfl, ?_⟩
          have zbd10 := bd10.size
          replace bd7 := bd7.trans (bd10.mono bd7.size)
          replace bd4 := bd4.trans (bd10.mono bd4.size)
          replace bd1 := bd1.trans (bd10.mono bd1.size)
          replace q := q.trans (bd10.mono q.size)
          replace q2 := q2.trans (bd10.mono q2.size)
          replace hs := hs.up bd10
          replace r4 := r4.up bd10
          replace hv := hv.up bd10
          replace h1 := h1.up bd10
          replace h2 := h2.up bd10
          replace h4 := h4.up bd10
          replace h5 := h5.up bd10
          refine LL.val (R.not rfl rfl) rfl rfl rfl ?_
          refine LL.val (R.pick rfl rfl rfl) rfl rfl rfl ?_
          refine LL.val (R.pick rfl rfl rfl) rfl rfl rfl ?_
          refine LL.nilS ?_
          refine CC.no rfl ?_
          refine CC.skip ?_
          refine EE.inN ?_
          refine EE.thenN ?_
          refine CC.region ?_
          refine LL.val (R.move rfl rfl) rfl rfl rfl ?_
          refine LL.val (R.addNc rfl rfl rfl rfl (by omega)) rfl rfl rfl ?_
          refine LL.val (R.assign rfl rfl) rfl rfl rfl ?_
          refine LL.nil ?_
          exact EE.round (i + 1) ⟨rfl, rfl, rfl, rfl, rfl, rfl, rfl, rfl, trivial⟩ ⟨by omega, q, q2, hs, r4⟩ (by omega)
      · have hi1 := h3 w0
        by_cases hb : i < B
        · rw [hlo hb] at f3
          clear hlo hhi h3
          refine CC.seq ?_
          refine CC.seq ?_
          refine CC.region ?_
          refine LL.val (R.move rfl rfl) rfl rfl rfl ?_
          refine LL.val (R.ltT rfl rfl rfl (by omega)) rfl rfl rfl ?_
          refine LL.nilS ?_
          refine CC.yes rfl ?_
          refine CC.skip ?_
          refine EE.thenN ?_
          refine CC.seq ?_
          refine CC.block ?_
          refine CC.seq ?_
          refine CC.region ?_
          refine LL.val (R.move rfl rfl) rfl rfl rfl ?_
          refine LL.val (R.move rfl rfl) rfl rfl rfl ?_
          refine LL.call (R.call rfl rfl rfl) rfl rfl rfl (find_T _ _ _ _ _ (by first | assumption | omega) (by first | assumption | omega) (by first | assumption | omega) (by first | assumption | omega)) ?_
          rintro e We2 ⟨rfl, be1⟩
          refine ⟨_, rfl, ?_⟩
          have zbe1 := be1.size
          replace q := q.trans (be1.mono q.size)
          replace q2 := q2.trans (be1.mono q2.size)
          replace hs := hs.up be1
          replace r4 := r4.up be1
          replace hv := hv.up be1
          replace h1 := h1.up be1
          replace h2 := h2.up be1
          replace h4 := h4.up be1
          replace h5 := h5.up be1
          refine LL.val (R.move rfl rfl) rfl rfl rfl ?_
          refine LL.val (R.extract rfl rfl rfl) rfl rfl rfl ?_
          refine LL.val (R.extract rfl rfl rfl) rfl rfl rfl ?_
          refine LL.val (R.assign rfl rfl) rfl rfl rfl ?_
          refine LL.val (R.assign rfl rfl) rfl rfl rfl ?_
          refine LL.nilS ?_
          refine CC.seq ?_
          refine CC.region ?_
          refine LL.val (R.move rfl rfl) rfl rfl rfl ?_
          refine LL.val (R.move rfl rfl) rfl rfl rfl ?_
          refine LL.call (R.call rfl rfl rfl) rfl rfl rfl (find_T _ _ _ _ _ (by first | assumption | omega) (by first | assumption | omega) (by first | assumption | omega) (by first | assumption | omega)) ?_
          rintro e We5 ⟨rfl, be4⟩
          refine ⟨_, rfl, ?_⟩
          have zbe4 := be4.size
          replace be1 := be1.trans (be4.mono be1.size)
          replace q := q.trans (be4.mono q.size)
          replace q2 := q2.trans (be4.mono q2.size)
          replace hs := hs.up be4
          replace r4 := r4.up be4
          replace hv := hv.up be4
          replace h1 := h1.up be4
          replace h2 := h2.up be4
          replace h4 := h4.up be4
          replace h5 := h5.up be4
          refine LL.val (R.move rfl rfl) rfl rfl rfl ?_
          refine LL.val (R.extract rfl rfl rfl) rfl rfl rfl ?_
          refine LL.val (R.extract rfl rfl rfl) rfl rfl rfl ?_
          refine LL.val (R.assign rfl rfl) rfl rfl rfl ?_
          refine LL.val (R.assign rfl rfl) rfl rfl rfl ?_
          refine LL.nilS ?_
          refine CC.seq ?_
          refine CC.region ?_
          refine LL.val (R.move rfl rfl) rfl rfl rfl ?_
          refine LL.val (R.move rfl rfl) rfl rfl rfl ?_
          refine LL.call (R.call rfl rfl rfl) rfl rfl rfl (find_T _ _ _ _ _ (by first | assumption | omega) (by first | assumption | omega) (by first | assumption | omega) (by first | assumption | omega)) ?_
          rintro e We8 ⟨rfl, be7⟩
          refine ⟨_, rfl, ?_⟩
          have zbe7 := be7.size
          replace be4 := be4.trans (be7.mono be4.size)
          replace be1 := be1.trans (be7.mono be1.size)
          replace q := q.trans (be7.mono q.size)
          replace q2 := q2.trans (be7.mono q2.size)
          replace hs := hs.up be7
          replace r4 := r4.up be7
          replace hv := hv.up be7
          replace h1 := h1.up be7
          replace h2 := h2.up be7
          replace h4 := h4.up be7
          replace h5 := h5.up be7
          refine LL.val (R.move rfl rfl) rfl rfl rfl ?_
          refine LL.val (R.extract rfl rfl rfl) rfl rfl rfl ?_
          refine LL.val (R.extract rfl rfl rfl) rfl rfl rfl ?_
          refine LL.val (R.assign rfl rfl) rfl rfl rfl ?_
          refine LL.val (R.assign rfl rfl) rfl rfl rfl ?_
          refine LL.nilS ?_
          refine CC.seq ?_
          refine CC.seq ?_
          refine CC.region ?_
          refine LL.val (R.move rfl rfl) rfl rfl rfl ?_
          refine LL.val (R.field rfl rfl (I.fld rfl)) rfl rfl rfl ?_
          refine LL.val (R.load rfl rfl (I.ld1 rfl (RowL.cell r4 rfl))) rfl rfl rfl ?_
          refine LL.val (R.geT rfl rfl rfl (by omega)) rfl rfl rfl ?_
          refine LL.val (R.move rfl rfl) rfl rfl rfl ?_
          refine LL.val (R.move rfl rfl) rfl rfl rfl ?_
          refine LL.val (R.field rfl rfl (I.fld rfl)) rfl rfl rfl ?_
          refine LL.val (R.load rfl rfl (I.ld1 rfl (RowL.cell r4 rfl))) rfl rfl rfl ?_
          refine LL.val (R.subN rfl rfl rfl (by omega) (by omega)) rfl rfl rfl ?_
          refine LL.val (R.field rfl rfl (I.fld rfl)) rfl rfl rfl ?_
          refine LL.val (R.load rfl rfl (I.ld1 rfl (RowL.cell r4 rfl))) rfl rfl rfl ?_
          refine LL.val (R.ltT rfl rfl rfl (by omega)) rfl rfl rfl ?_
          refine LL.val (R.pick rfl rfl rfl) rfl rfl rfl ?_
          refine LL.nilS ?_
          refine CC.yes rfl ?_
          refine CC.seq ?_
          refine CC.region ?_
          refine LL.val (R.move rfl rfl) rfl rfl rfl ?_
          refine LL.val (R.not rfl rfl) rfl rfl rfl ?_
          refine LL.val (R.move rfl rfl) rfl rfl rfl ?_
          refine LL.val (R.move rfl rfl) rfl rfl rfl ?_
          refine LL.val (R.field rfl rfl (I.fld rfl)) rfl rfl rfl ?_
          refine LL.val (R.load rfl rfl (I.ld1 rfl (RowL.cell r4 rfl))) rfl rfl rfl ?_
          refine LL.val (R.move rfl rfl) rfl rfl rfl ?_
          refine LL.val (R.addN rfl rfl rfl (by omega)) rfl rfl rfl ?_
          refine LL.val (R.field rfl rfl (I.fld rfl)) rfl rfl rfl ?_
          refine LL.val (R.load rfl rfl (I.ld1 rfl (RowL.cell r4 rfl))) rfl rfl rfl ?_
          refine LL.val (R.subN rfl rfl rfl (by omega) (by omega)) rfl rfl rfl ?_
          refine LL.val (R.neF rfl rfl rfl (by omega)) rfl rfl rfl ?_
          refine LL.val (R.pick rfl rfl rfl) rfl rfl rfl ?_
          refine LL.val (R.move rfl rfl) rfl rfl rfl ?_
          refine LL.val (R.move rfl rfl) rfl rfl rfl ?_
          refine LL.val (R.move rfl rfl) rfl rfl rfl ?_
          refine LL.val (R.move rfl rfl) rfl rfl rfl ?_
          refine LL.val (R.move rfl rfl) rfl rfl rfl ?_
          refine LL.call (R.call rfl rfl rfl) rfl rfl rfl (in_T _ _ _ _ (by first | assumption | omega) (by first | assumption | omega) (by first | assumption | omega) (by first | assumption | omega) (by first | assumption | omega)) ?_
          rintro e We11 ⟨rfl, be10⟩
          refine ⟨_, rfl, ?_⟩
          have zbe10 := be10.size
          replace be7 := be7.trans (be10.mono be7.size)
          replace be4 := be4.trans (be10.mono be4.size)
          replace be1 := be1.trans (be10.mono be1.size)
          replace q := q.trans (be10.mono q.size)
          replace q2 := q2.trans (be10.mono q2.size)
          replace hs := hs.up be10
          replace r4 := r4.up be10
          replace hv := hv.up be10
          replace h1 := h1.up be10
          replace h2 := h2.up be10
          replace h4 := h4.up be10
          replace h5 := h5.up be10
          refine LL.val (R.not rfl rfl) rfl rfl rfl ?_
          refine LL.val (R.pick rfl rfl rfl) rfl rfl rfl ?_
          refine LL.val (R.pick rfl rfl rfl) rfl rfl rfl ?_
          refine LL.nilS ?_
          refine CC.no rfl ?_
          refine CC.skip ?_
          refine EE.thenN ?_
          refine CC.seq ?_
          refine CC.region ?_
          refine LL.val (R.move rfl rfl) rfl rfl rfl ?_
          refine LL.val (R.move rfl rfl) rfl rfl rfl ?_
          refine LL.val (R.move rfl rfl) rfl rfl rfl ?_
          refine LL.val (R.move rfl rfl) rfl rfl rfl ?_
          refine LL.val (R.move rfl rfl) rfl rfl rfl ?_
          refine LL.val (R.ltT rfl rfl rfl (by omega)) rfl rfl rfl ?_
          refine LL.val (R.pick rfl rfl rfl) rfl rfl rfl ?_
          refine LL.val (R.neBool rfl rfl rfl rfl rfl) rfl rfl rfl ?_
          refine LL.val (R.move rfl rfl) rfl rfl rfl ?_
          refine LL.val (R.move rfl rfl) rfl rfl rfl ?_
          refine LL.val (R.move rfl rfl) rfl rfl rfl ?_
          refine LL.val (R.move rfl rfl) rfl rfl rfl ?_
          refine LL.val (R.move rfl rfl) rfl rfl rfl ?_
          refine LL.val (R.neF rfl rfl rfl (by omega)) rfl rfl rfl ?_
          refine LL.val (R.pick rfl rfl rfl) rfl rfl rfl ?_
          refine LL.val (R.pick rfl rfl rfl) rfl rfl rfl ?_
          refine LL.val (R.move rfl rfl) rfl rfl rfl ?_
          refine LL.val (R.move rfl rfl) rfl rfl rfl ?_
          refine LL.val (R.move rfl rfl) rfl rfl rfl ?_
          refine LL.val (R.move rfl rfl) rfl rfl rfl ?_
          refine LL.val (R.not rfl rfl) rfl rfl rfl ?_
          refine LL.val (R.pick rfl rfl rfl) rfl rfl rfl ?_
          refine LL.val (R.move rfl rfl) rfl rfl rfl ?_
          refine LL.skip rfl rfl ?_
          refine LL.skip rfl rfl ?_
          refine LL.skip rfl rfl ?_
          refine LL.skip rfl rfl ?_
          refine LL.val (R.pick rfl rfl rfl) rfl rfl rfl ?_
          refine LL.val (R.pick rfl rfl rfl) rfl rfl rfl ?_
          refine LL.nilS ?_
          refine CC.no rfl ?_
          refine CC.skip ?_
          refine EE.inN ?_
          refine EE.thenN ?_
          refine CC.region ?_
          refine LL.val (R.move rfl rfl) rfl rfl rfl ?_
          refine LL.val (R.addNc rfl rfl rfl rfl (by omega)) rfl rfl rfl ?_
          refine LL.val (R.assign rfl rfl) rfl rfl rfl ?_
          refine LL.nil ?_
          exact EE.round (i + 1) ⟨rfl, rfl, rfl, rfl, rfl, rfl, rfl, rfl, trivial⟩ ⟨by omega, q, q2, hs, r4⟩ (by omega)
        · obtain ⟨e3, hi3⟩ := hhi hb
          have hi4 := hi3 n0
          rw [e3] at f3
          clear hlo hhi h3 hi3
          refine CC.seq ?_
          refine CC.seq ?_
          refine CC.region ?_
          refine LL.val (R.move rfl rfl) rfl rfl rfl ?_
          refine LL.val (R.ltT rfl rfl rfl (by omega)) rfl rfl rfl ?_
          refine LL.nilS ?_
          refine CC.yes rfl ?_
          refine CC.skip ?_
          refine EE.thenN ?_
          refine CC.seq ?_
          refine CC.block ?_
          refine CC.seq ?_
          refine CC.region ?_
          refine LL.val (R.move rfl rfl) rfl rfl rfl ?_
          refine LL.val (R.move rfl rfl) rfl rfl rfl ?_
          refine LL.call (R.call rfl rfl rfl) rfl rfl rfl (find_T _ _ _ _ _ (by first | assumption | omega) (by first | assumption | omega) (by first | assumption | omega) (by first | assumption | omega)) ?_
          rintro e Wf2 ⟨rfl, bf1⟩
          refine ⟨_, rfl, ?_⟩
          have zbf1 := bf1.size
          replace q := q.trans (bf1.mono q.size)
          replace q2 := q2.trans (bf1.mono q2.size)
          replace hs := hs.up bf1
          replace r4 := r4.up bf1
          replace hv := hv.up bf1
          replace h1 := h1.up bf1
          replace h2 := h2.up bf1
          replace h4 := h4.up bf1
          replace h5 := h5.up bf1
          refine LL.val (R.move rfl rfl) rfl rfl rfl ?_
          refine LL.val (R.extract rfl rfl rfl) rfl rfl rfl ?_
          refine LL.val (R.extract rfl rfl rfl) rfl rfl rfl ?_
          refine LL.val (R.assign rfl rfl) rfl rfl rfl ?_
          refine LL.val (R.assign rfl rfl) rfl rfl rfl ?_
          refine LL.nilS ?_
          refine CC.seq ?_
          refine CC.region ?_
          refine LL.val (R.move rfl rfl) rfl rfl rfl ?_
          refine LL.val (R.move rfl rfl) rfl rfl rfl ?_
          refine LL.call (R.call rfl rfl rfl) rfl rfl rfl (find_T _ _ _ _ _ (by first | assumption | omega) (by first | assumption | omega) (by first | assumption | omega) (by first | assumption | omega)) ?_
          rintro e Wf5 ⟨rfl, bf4⟩
          refine ⟨_, rfl, ?_⟩
          have zbf4 := bf4.size
          replace bf1 := bf1.trans (bf4.mono bf1.size)
          replace q := q.trans (bf4.mono q.size)
          replace q2 := q2.trans (bf4.mono q2.size)
          replace hs := hs.up bf4
          replace r4 := r4.up bf4
          replace hv := hv.up bf4
          replace h1 := h1.up bf4
          replace h2 := h2.up bf4
          replace h4 := h4.up bf4
          replace h5 := h5.up bf4
          refine LL.val (R.move rfl rfl) rfl rfl rfl ?_
          refine LL.val (R.extract rfl rfl rfl) rfl rfl rfl ?_
          refine LL.val (R.extract rfl rfl rfl) rfl rfl rfl ?_
          refine LL.val (R.assign rfl rfl) rfl rfl rfl ?_
          refine LL.val (R.assign rfl rfl) rfl rfl rfl ?_
          refine LL.nilS ?_
          refine CC.seq ?_
          refine CC.region ?_
          refine LL.val (R.move rfl rfl) rfl rfl rfl ?_
          refine LL.val (R.move rfl rfl) rfl rfl rfl ?_
          refine LL.call (R.call rfl rfl rfl) rfl rfl rfl (find_0 _ _ _ _ (by first | assumption | omega) (by first | assumption | omega) (by first | assumption | omega)) ?_
          rintro e Wf8 ⟨rfl, bf7⟩
          refine ⟨_, rfl, ?_⟩
          have zbf7 := bf7.size
          replace bf4 := bf4.trans (bf7.mono bf4.size)
          replace bf1 := bf1.trans (bf7.mono bf1.size)
          replace q := q.trans (bf7.mono q.size)
          replace q2 := q2.trans (bf7.mono q2.size)
          replace hs := hs.up bf7
          replace r4 := r4.up bf7
          replace hv := hv.up bf7
          replace h1 := h1.up bf7
          replace h2 := h2.up bf7
          replace h4 := h4.up bf7
          replace h5 := h5.up bf7
          refine LL.val (R.move rfl rfl) rfl rfl rfl ?_
          refine LL.val (R.extract rfl rfl rfl) rfl rfl rfl ?_
          refine LL.val (R.extract rfl rfl rfl) rfl rfl rfl ?_
          refine LL.val (R.assign rfl rfl) rfl rfl rfl ?_
          refine LL.val (R.assign rfl rfl) rfl rfl rfl ?_
          refine LL.nilS ?_
          refine CC.seq ?_
          refine CC.seq ?_
          refine CC.region ?_
          refine LL.val (R.move rfl rfl) rfl rfl rfl ?_
          refine LL.val (R.field rfl rfl (I.fld rfl)) rfl rfl rfl ?_
          refine LL.val (R.load rfl rfl (I.ld1 rfl (RowL.cell r4 rfl))) rfl rfl rfl ?_
          refine LL.val (R.geT rfl rfl rfl (by omega)) rfl rfl rfl ?_
          refine LL.val (R.move rfl rfl) rfl rfl rfl ?_
          refine LL.val (R.move rfl rfl) rfl rfl rfl ?_
          refine LL.val (R.field rfl rfl (I.fld rfl)) rfl rfl rfl ?_
          refine LL.val (R.load rfl rfl (I.ld1 rfl (RowL.cell r4 rfl))) rfl rfl rfl ?_
          refine LL.val (R.subN rfl rfl rfl (by omega) (by omega)) rfl rfl rfl ?_
          refine LL.val (R.field rfl rfl (I.fld rfl)) rfl rfl rfl ?_
          refine LL.val (R.load rfl rfl (I.ld1 rfl (RowL.cell r4 rfl))) rfl rfl rfl ?_
          refine LL.val (R.ltT rfl rfl rfl (by omega)) rfl rfl rfl ?_
          refine LL.val (R.pick rfl rfl rfl) rfl rfl rfl ?_
          refine LL.nilS ?_
          refine CC.yes rfl ?_
          refine CC.seq ?_
          refine CC.region ?_
          refine LL.val (R.move rfl rfl) rfl rfl rfl ?_
          refine LL.val (R.not rfl rfl) rfl rfl rfl ?_
          refine LL.val (R.move rfl rfl) rfl rfl rfl ?_
          refine LL.val (R.move rfl rfl) rfl rfl rfl ?_
          refine LL.val (R.field rfl rfl (I.fld rfl)) rfl rfl rfl ?_
          refine LL.val (R.load rfl rfl (I.ld1 rfl (RowL.cell r4 rfl))) rfl rfl rfl ?_
          refine LL.val (R.move rfl rfl) rfl rfl rfl ?_
          refine LL.val (R.addN rfl rfl rfl (by omega)) rfl rfl rfl ?_
          refine LL.val (R.field rfl rfl (I.fld rfl)) rfl rfl rfl ?_
          refine LL.val (R.load rfl rfl (I.ld1 rfl (RowL.cell r4 rfl))) rfl rfl rfl ?_
          refine LL.val (R.subN rfl rfl rfl (by omega) (by omega)) rfl rfl rfl ?_
          refine LL.val (R.neF rfl rfl rfl (by omega)) rfl rfl rfl ?_
          refine LL.val (R.pick rfl rfl rfl) rfl rfl rfl ?_
          refine LL.val (R.move rfl rfl) rfl rfl rfl ?_
          refine LL.val (R.move rfl rfl) rfl rfl rfl ?_
          refine LL.val (R.move rfl rfl) rfl rfl rfl ?_
          refine LL.val (R.move rfl rfl) rfl rfl rfl ?_
          refine LL.val (R.move rfl rfl) rfl rfl rfl ?_
          refine LL.call (R.call rfl rfl rfl) rfl rfl rfl (in_T _ _ _ _ (by first | assumption | omega) (by first | assumption | omega) (by first | assumption | omega) (by first | assumption | omega) (by first | assumption | omega)) ?_
          rintro e Wf11 ⟨rfl, bf10⟩
          refine ⟨_, rfl, ?_⟩
          have zbf10 := bf10.size
          replace bf7 := bf7.trans (bf10.mono bf7.size)
          replace bf4 := bf4.trans (bf10.mono bf4.size)
          replace bf1 := bf1.trans (bf10.mono bf1.size)
          replace q := q.trans (bf10.mono q.size)
          replace q2 := q2.trans (bf10.mono q2.size)
          replace hs := hs.up bf10
          replace r4 := r4.up bf10
          replace hv := hv.up bf10
          replace h1 := h1.up bf10
          replace h2 := h2.up bf10
          replace h4 := h4.up bf10
          replace h5 := h5.up bf10
          refine LL.val (R.not rfl rfl) rfl rfl rfl ?_
          refine LL.val (R.pick rfl rfl rfl) rfl rfl rfl ?_
          refine LL.val (R.pick rfl rfl rfl) rfl rfl rfl ?_
          refine LL.nilS ?_
          refine CC.no rfl ?_
          refine CC.skip ?_
          refine EE.thenN ?_
          refine CC.seq ?_
          refine CC.region ?_
          refine LL.val (R.move rfl rfl) rfl rfl rfl ?_
          refine LL.val (R.move rfl rfl) rfl rfl rfl ?_
          refine LL.val (R.move rfl rfl) rfl rfl rfl ?_
          refine LL.val (R.move rfl rfl) rfl rfl rfl ?_
          refine LL.val (R.move rfl rfl) rfl rfl rfl ?_
          refine LL.val (R.ltF rfl rfl rfl (by omega)) rfl rfl rfl ?_
          refine LL.val (R.pick rfl rfl rfl) rfl rfl rfl ?_
          refine LL.val (R.neBool rfl rfl rfl rfl rfl) rfl rfl rfl ?_
          refine LL.val (R.move rfl rfl) rfl rfl rfl ?_
          refine LL.val (R.move rfl rfl) rfl rfl rfl ?_
          refine LL.val (R.move rfl rfl) rfl rfl rfl ?_
          refine LL.skip rfl rfl ?_
          refine LL.skip rfl rfl ?_
          refine LL.skip rfl rfl ?_
          refine LL.val (R.pick rfl rfl rfl) rfl rfl rfl ?_
          refine LL.val (R.pick rfl rfl rfl) rfl rfl rfl ?_
          refine LL.val (R.move rfl rfl) rfl rfl rfl ?_
          refine LL.val (R.move rfl rfl) rfl rfl rfl ?_
          refine LL.val (R.move rfl rfl) rfl rfl rfl ?_
          refine LL.val (R.move rfl rfl) rfl rfl rfl ?_
          refine LL.val (R.not rfl rfl) rfl rfl rfl ?_
          refine LL.val (R.pick rfl rfl rfl) rfl rfl rfl ?_
          refine LL.val (R.move rfl rfl) rfl rfl rfl ?_
          refine LL.val (R.move rfl rfl) rfl rfl rfl ?_
          refine LL.val (R.move rfl rfl) rfl rfl rfl ?_
          refine LL.call (R.call rfl rfl rfl) rfl rfl rfl (in_T _ _ _ _ (by first | assumption | omega) (by first | assumption | omega) (by first | assumption | omega) (by first | assumption | omega) (by first | assumption | omega)) ?_
          rintro e Wf14 ⟨rfl, bf13⟩
          refine ⟨_, rfl, ?_⟩
          have zbf13 := bf13.size
          replace bf10 := bf10.trans (bf13.mono bf10.size)
          replace bf7 := bf7.trans (bf13.mono bf7.size)
          replace bf4 := bf4.trans (bf13.mono bf4.size)
          replace bf1 := bf1.trans (bf13.mono bf1.size)
          replace q := q.trans (bf13.mono q.size)
          replace q2 := q2.trans (bf13.mono q2.size)
          replace hs := hs.up bf13
          replace r4 := r4.up bf13
          replace hv := hv.up bf13
          replace h1 := h1.up bf13
          replace h2 := h2.up bf13
          replace h4 := h4.up bf13
          replace h5 := h5.up bf13
          refine LL.val (R.not rfl rfl) rfl rfl rfl ?_
          refine LL.val (R.pick rfl rfl rfl) rfl rfl rfl ?_
          refine LL.val (R.pick rfl rfl rfl) rfl rfl rfl ?_
          refine LL.nilS ?_
          refine CC.no rfl ?_
          refine CC.skip ?_
          refine EE.inN ?_
          refine EE.thenN ?_
          refine CC.region ?_
          refine LL.val (R.move rfl rfl) rfl rfl rfl ?_
          refine LL.val (R.addNc rfl rfl rfl rfl (by omega)) rfl rfl rfl ?_
          refine LL.val (R.assign rfl rfl) rfl rfl rfl ?_
          refine LL.nil ?_
          exact EE.round (i + 1) ⟨rfl, rfl, rfl, rfl, rfl, rfl, rfl, rfl, trivial⟩ ⟨by omega, q, q2, hs, r4⟩ (by omega)
    · obtain ⟨e1, h3⟩ := hout hr
      clear hin hout
      subst e1
      by_cases w0 : now = 0
      · rw [w0] at f1 f2
        have f3' : fndE c (i : Int) = 0 := by
          by_cases hb : i < B
          · rw [f3, hlo hb, w0]
          · rw [f3, (hhi hb).1]
        clear f3 hlo hhi h3
        refine CC.seq ?_
        refine CC.seq ?_
        refine CC.region ?_
        refine LL.val (R.move rfl rfl) rfl rfl rfl ?_
        refine LL.val (R.ltT rfl rfl rfl (by omega)) rfl rfl rfl ?_
        refine LL.nilS ?_
        refine CC.yes rfl ?_
        refine CC.skip ?_
        refine EE.thenN ?_
        refine CC.seq ?_
        refine CC.block ?_
        refine CC.seq ?_
        refine CC.region ?_
        refine LL.val (R.move rfl rfl) rfl rfl rfl ?_
        refine LL.val (R.move rfl rfl) rfl rfl rfl ?_
        refine LL.call (R.call rfl rfl rfl) rfl rfl rfl (find_0 _ _ _ _ (by first | assumption | omega) (by first | assumption | omega) (by first | assumption | omega)) ?_
        rintro e Wg2 ⟨rfl, bg1⟩
        refine ⟨_, rfl, ?_⟩
        have zbg1 := bg1.size
        replace q := q.trans (bg1.mono q.size)
        replace q2 := q2.trans (bg1.mono q2.size)
        replace hs := hs.up bg1
        replace r4 := r4.up bg1
        replace hv := hv.up bg1
        replace h1 := h1.up bg1
        replace h2 := h2.up bg1
        replace h4 := h4.up bg1
        replace h5 := h5.up bg1
        refine LL.val (R.move rfl rfl) rfl rfl rfl ?_
        refine LL.val (R.extract rfl rfl rfl) rfl rfl rfl ?_
        refine LL.val (R.extract rfl rfl rfl) rfl rfl rfl ?_
        refine LL.val (R.assign rfl rfl) rfl rfl rfl ?_
        refine LL.val (R.assign rfl rfl) rfl rfl rfl ?_
        refine LL.nilS ?_
        refine CC.seq ?_
        refine CC.region ?_
        refine LL.val (R.move rfl rfl) rfl rfl rfl ?_
        refine LL.val (R.move rfl rfl) rfl rfl rfl ?_
        refine LL.call (R.call rfl rfl rfl) rfl rfl rfl (find_0 _ _ _ _ (by first | assumption | omega) (by first | assumption | omega) (by first | assumption | omega)) ?_
        rintro e Wg5 ⟨rfl, bg4⟩
        refine ⟨_, rfl, ?_⟩
        have zbg4 := bg4.size
        replace bg1 := bg1.trans (bg4.mono bg1.size)
        replace q := q.trans (bg4.mono q.size)
        replace q2 := q2.trans (bg4.mono q2.size)
        replace hs := hs.up bg4
        replace r4 := r4.up bg4
        replace hv := hv.up bg4
        replace h1 := h1.up bg4
        replace h2 := h2.up bg4
        replace h4 := h4.up bg4
        replace h5 := h5.up bg4
        refine LL.val (R.move rfl rfl) rfl rfl rfl ?_
        refine LL.val (R.extract rfl rfl rfl) rfl rfl rfl ?_
        refine LL.val (R.extract rfl rfl rfl) rfl rfl rfl ?_
        refine LL.val (R.assign rfl rfl) rfl rfl rfl ?_
        refine LL.val (R.assign rfl rfl) rfl rfl rfl ?_
        refine LL.nilS ?_
        refine CC.seq ?_
        refine CC.region ?_
        refine LL.val (R.move rfl rfl) rfl rfl rfl ?_
        refine LL.val (R.move rfl rfl) rfl rfl rfl ?_
        refine LL.call (R.call rfl rfl rfl) rfl rfl rfl (find_0 _ _ _ _ (by first | assumption | omega) (by first | assumption | omega) (by first | assumption | omega)) ?_
        rintro e Wg8 ⟨rfl, bg7⟩
        refine ⟨_, rfl, ?_⟩
        have zbg7 := bg7.size
        replace bg4 := bg4.trans (bg7.mono bg4.size)
        replace bg1 := bg1.trans (bg7.mono bg1.size)
        replace q := q.trans (bg7.mono q.size)
        replace q2 := q2.trans (bg7.mono q2.size)
        replace hs := hs.up bg7
        replace r4 := r4.up bg7
        replace hv := hv.up bg7
        replace h1 := h1.up bg7
        replace h2 := h2.up bg7
        replace h4 := h4.up bg7
        replace h5 := h5.up bg7
        refine LL.val (R.move rfl rfl) rfl rfl rfl ?_
        refine LL.val (R.extract rfl rfl rfl) rfl rfl rfl ?_
        refine LL.val (R.extract rfl rfl rfl) rfl rfl rfl ?_
        refine LL.val (R.assign rfl rfl) rfl rfl rfl ?_
        refine LL.val (R.assign rfl rfl) rfl rfl rfl ?_
        refine LL.nilS ?_
        refine CC.seq ?_
        refine CC.seq ?_
        refine CC.region ?_
        refine LL.val (R.move rfl rfl) rfl rfl rfl ?_
        refine LL.val (R.field rfl rfl (I.fld rfl)) rfl rfl rfl ?_
        refine LL.val (R.load rfl rfl (I.ld1 rfl (RowL.cell r4 rfl))) rfl rfl rfl ?_
        refine LL.vsplit (fun h => R.geT rfl rfl rfl h) (fun h => R.geF rfl rfl rfl (Int.not_le.1 h)) rfl rfl rfl (fun cg10 => ?_) (fun cg10 => ?_)
        refine LL.val (R.move rfl rfl) rfl rfl rfl ?_
        refine LL.val (R.move rfl rfl) rfl rfl rfl ?_
        refine LL.val (R.field rfl rfl (I.fld rfl)) rfl rfl rfl ?_
        refine LL.val (R.load rfl rfl (I.ld1 rfl (RowL.cell r4 rfl))) rfl rfl rfl ?_
        refine LL.val (R.subN rfl rfl rfl (by omega) (by omega)) rfl rfl rfl ?_
        refine LL.val (R.field rfl rfl (I.fld rfl)) rfl rfl rfl ?_
        refine LL.val (R.load rfl rfl (I.ld1 rfl (RowL.cell r4 rfl))) rfl rfl rfl ?_
        refine LL.val (R.ltF rfl rfl rfl (by omega)) rfl rfl rfl ?_
        refine LL.val (R.pick rfl rfl rfl) rfl rfl rfl ?_
        refine LL.nilS ?_
        refine CC.no rfl ?_
        refine CC.seq ?_
        refine CC.region ?_
        refine LL.val (R.move rfl rfl) rfl rfl rfl ?_
        refine LL.val (R.move rfl rfl) rfl rfl rfl ?_
        refine LL.val (R.neBool rfl rfl rfl rfl rfl) rfl rfl rfl ?_
        refine LL.val (R.move rfl rfl) rfl rfl rfl ?_
        refine LL.val (R.move rfl rfl) rfl rfl rfl ?_
        refine LL.val (R.move rfl rfl) rfl rfl rfl ?_
        refine LL.val (R.neF rfl rfl rfl (by omega)) rfl rfl rfl ?_
        refine LL.val (R.pick rfl rfl rfl) rfl rfl rfl ?_
        refine LL.val (R.move rfl rfl) rfl rfl rfl ?_
        refine LL.val (R.move rfl rfl) rfl rfl rfl ?_
        refine LL.val (R.move rfl rfl) rfl rfl rfl ?_
        refine LL.skip rfl rfl ?_
        refine LL.skip rfl rfl ?_
        refine LL.skip rfl rfl ?_
        refine LL.val (R.pick rfl rfl rfl) rfl rfl rfl ?_
        refine LL.val (R.pick rfl rfl rfl) rfl rfl rfl ?_
        refine LL.nilS ?_
        refine CC.no rfl ?_
        refine CC.skip ?_
        refine EE.thenN ?_
        refine CC.seq ?_
        refine CC.region ?_
        refine LL.val (R.move rfl rfl) rfl rfl rfl ?_
        refine LL.val (R.move rfl rfl) rfl rfl rfl ?_
        refine LL.val (R.move rfl rfl) rfl rfl rfl ?_
        refine LL.skip rfl rfl ?_
        refine LL.skip rfl rfl ?_
        refine LL.skip rfl rfl ?_
        refine LL.val (R.pick rfl rfl rfl) rfl rfl rfl ?_
        refine LL.val (R.neBool rfl rfl rfl rfl rfl) rfl rfl rfl ?_
        refine LL.val (R.move rfl rfl) rfl rfl rfl ?_
        refine LL.val (R.move rfl rfl) rfl rfl rfl ?_
        refine LL.val (R.move rfl rfl) rfl rfl rfl ?_
        refine LL.skip rfl rfl ?_
        refine LL.skip rfl rfl ?_
        refine LL.skip rfl rfl ?_
        refine LL.val (R.pick rfl rfl rfl) rfl rfl rfl ?_
        refine LL.val (R.pick rfl rfl rfl) rfl rfl rfl ?_
        refine LL.val (R.move rfl rfl) rfl rfl rfl ?_
        refine LL.val (R.move rfl rfl) rfl rfl rfl ?_
        refine LL.val (R.move rfl rfl) rfl rfl rfl ?_
        refine LL.skip rfl rfl ?_
        refine LL.skip rfl rfl ?_
        refine LL.val (R.pick rfl rfl rfl) rfl rfl rfl ?_
        refine LL.val (R.move rfl rfl) rfl rfl rfl ?_
        refine LL.skip rfl rfl ?_
        refine LL.skip rfl rfl ?_
        refine LL.skip rfl rfl ?_
        refine LL.skip rfl rfl ?_
        refine LL.val (R.pick rfl rfl rfl) rfl rfl rfl ?_
        refine LL.val (R.pick rfl rfl rfl) rfl rfl rfl ?_
        refine LL.nilS ?_
        refine CC.no rfl ?_
        refine CC.skip ?_
        refine EE.inN ?_
        refine EE.thenN ?_
        refine CC.region ?_
        refine LL.val (R.move rfl rfl) rfl rfl rfl ?_
        refine LL.val (R.addNc rfl rfl rfl rfl (by omega)) rfl rfl rfl ?_
        refine LL.val (R.assign rfl rfl) rfl rfl rfl ?_
        refine LL.nil ?_
        exact EE.round (i + 1) ⟨rfl, rfl, rfl, rfl, rfl, rfl, rfl, rfl, trivial⟩ ⟨by omega, q, q2, hs, r4⟩ (by omega)
        refine LL.val (R.move rfl rfl) rfl rfl rfl ?_
        refine LL.skip rfl rfl ?_
        refine LL.skip rfl rfl ?_
        refine LL.skip rfl rfl ?_
        refine LL.skip rfl rfl ?_
        refine LL.skip rfl rfl ?_
        refine LL.skip rfl rfl ?_
        refine LL.skip rfl rfl ?_
        refine LL.val (R.pick rfl rfl rfl) rfl rfl rfl ?_
        refine LL.nilS ?_
        refine CC.no rfl ?_
        refine CC.seq ?_
        refine CC.region ?_
        refine LL.val (R.move rfl rfl) rfl rfl rfl ?_
        refine LL.val (R.move rfl rfl) rfl rfl rfl ?_
        refine LL.val (R.neBool rfl rfl rfl rfl rfl) rfl rfl rfl ?_
        refine LL.val (R.move rfl rfl) rfl rfl rfl ?_
        refine LL.val (R.move rfl rfl) rfl rfl rfl ?_
        refine LL.val (R.move rfl rfl) rfl rfl rfl ?_
        refine LL.val (R.neF rfl rfl rfl (by omega)) rfl rfl rfl ?_
        refine LL.val (R.pick rfl rfl rfl) rfl rfl rfl ?_
        refine LL.val (R.move rfl rfl) rfl rfl rfl ?_
        refine LL.val (R.move rfl rfl) rfl rfl rfl ?_
        refine LL.val (R.move rfl rfl) rfl rfl rfl ?_
        refine LL.skip rfl rfl ?_
        refine LL.skip rfl rfl ?_
        refine LL.skip rfl rfl ?_
        refine LL.val (R.pick rfl rfl rfl) rfl rfl rfl ?_
        refine LL.val (R.pick rfl rfl rfl) rfl rfl rfl ?_
        refine LL.nilS ?_
        refine CC.no rfl ?_
        refine CC.skip ?_
        refine EE.thenN ?_
        refine CC.seq ?_
        refine CC.region ?_
        refine LL.val (R.move rfl rfl) rfl rfl rfl ?_
        refine LL.val (R.move rfl rfl) rfl rfl rfl ?_
        refine LL.val (R.move rfl rfl) rfl rfl rfl ?_
        refine LL.skip rfl rfl ?_
        refine LL.skip rfl rfl ?_
        refine LL.skip rfl rfl ?_
        refine LL.val (R.pick rfl rfl rfl) rfl rfl rfl ?_
        refine LL.val (R.neBool rfl rfl rfl rfl rfl) rfl rfl rfl ?_
        refine LL.val (R.move rfl rfl) rfl rfl rfl ?_
        refine LL.val (R.move rfl rfl) rfl rfl rfl ?_
        refine LL.val (R.move rfl rfl) rfl rfl rfl ?_
        refine LL.skip rfl rfl ?_
        refine LL.skip rfl rfl ?_
        refine LL.skip rfl rfl ?_
        refine LL.val (R.pick rfl rfl rfl) rfl rfl rfl ?_
        refine LL.val (R.pick rfl rfl rfl) rfl rfl rfl ?_
        refine LL.val (R.move rfl rfl) rfl rfl rfl ?_
        refine LL.val (R.move rfl rfl) rfl rfl rfl ?_
        refine LL.val (R.move rfl rfl) rfl rfl rfl ?_
        refine LL.skip rfl rfl ?_
        refine LL.skip rfl rfl ?_
        refine LL.val (R.pick rfl rfl rfl) rfl rfl rfl ?_
        refine LL.val (R.move rfl rfl) rfl rfl rfl ?_
        refine LL.skip rfl rfl ?_
        refine LL.skip rfl rfl ?_
        refine LL.skip rfl rfl ?_
        refine LL.skip rfl rfl ?_
        refine LL.val (R.pick rfl rfl rfl) rfl rfl rfl ?_
        refine LL.val (R.pick rfl rfl rfl) rfl rfl rfl ?_
        refine LL.nilS ?_
        refine CC.no rfl ?_
        refine CC.skip ?_
        refine EE.inN ?_
        refine EE.thenN ?_
        refine CC.region ?_
        refine LL.val (R.move rfl rfl) rfl rfl rfl ?_
        refine LL.val (R.addNc rfl rfl rfl rfl (by omega)) rfl rfl rfl ?_
        refine LL.val (R.assign rfl rfl) rfl rfl rfl ?_
        refine LL.nil ?_
        exact EE.round (i + 1) ⟨rfl, rfl, rfl, rfl, rfl, rfl, rfl, rfl, trivial⟩ ⟨by omega, q, q2, hs, r4⟩ (by omega)
      · have hno := h3 w0
        by_cases hb : i < B
        · rw [hlo hb] at f3
          clear hlo hhi h3
          refine CC.seq ?_
          refine CC.seq ?_
          refine CC.region ?_
          refine LL.val (R.move rfl rfl) rfl rfl rfl ?_
          refine LL.val (R.ltT rfl rfl rfl (by omega)) rfl rfl rfl ?_
          refine LL.nilS ?_
          refine CC.yes rfl ?_
          refine CC.skip ?_
          refine EE.thenN ?_
          refine CC.seq ?_
          refine CC.block ?_
          refine CC.seq ?_
          refine CC.region ?_
          refine LL.val (R.move rfl rfl) rfl rfl rfl ?_
          refine LL.val (R.move rfl rfl) rfl rfl rfl ?_
          refine LL.call (R.call rfl rfl rfl) rfl rfl rfl (find_T _ _ _ _ _ (by first | assumption | omega) (by first | assumption | omega) (by first | assumption | omega) (by first | assumption | omega)) ?_
          rintro e Wh2 ⟨rfl, bh1⟩
          refine ⟨_, rfl, ?_⟩
          have zbh1 := bh1.size
          replace q := q.trans (bh1.mono q.size)
          replace q2 := q2.trans (bh1.mono q2.size)
          replace hs := hs.up bh1
          replace r4 := r4.up bh1
          replace hv := hv.up bh1
          replace h1 := h1.up bh1
          replace h2 := h2.up bh1
          replace h4 := h4.up bh1
          replace h5 := h5.up bh1
          refine LL.val (R.move rfl rfl) rfl rfl rfl ?_
          refine LL.val (R.extract rfl rfl rfl) rfl rfl rfl ?_
          refine LL.val (R.extract rfl rfl rfl) rfl rfl rfl ?_
          refine LL.val (R.assign rfl rfl) rfl rfl rfl ?_
          refine LL.val (R.assign rfl rfl) rfl rfl rfl ?_
          refine LL.nilS ?_
          refine CC.seq ?_
          refine CC.region ?_
          refine LL.val (R.move rfl rfl) rfl rfl rfl ?_
          refine LL.val (R.move rfl rfl) rfl rfl rfl ?_
          refine LL.call (R.call rfl rfl rfl) rfl rfl rfl (find_T _ _ _ _ _ (by first | assumption | omega) (by first | assumption | omega) (by first | assumption | omega) (by first | assumption | omega)) ?_
          rintro e Wh5 ⟨rfl, bh4⟩
          refine ⟨_, rfl, ?_⟩
          have zbh4 := bh4.size
          replace bh1 := bh1.trans (bh4.mono bh1.size)
          replace q := q.trans (bh4.mono q.size)
          replace q2 := q2.trans (bh4.mono q2.size)
          replace hs := hs.up bh4
          replace r4 := r4.up bh4
          replace hv := hv.up bh4
          replace h1 := h1.up bh4
          replace h2 := h2.up bh4
          replace h4 := h4.up bh4
          replace h5 := h5.up bh4
          refine LL.val (R.move rfl rfl) rfl rfl rfl ?_
          refine LL.val (R.extract rfl rfl rfl) rfl rfl rfl ?_
          refine LL.val (R.extract rfl rfl rfl) rfl rfl rfl ?_
          refine LL.val (R.assign rfl rfl) rfl rfl rfl ?_
          refine LL.val (R.assign rfl rfl) rfl rfl rfl ?_
          refine LL.nilS ?_
          refine CC.seq ?_
          refine CC.region ?_
          refine LL.val (R.move rfl rfl) rfl rfl rfl ?_
          refine LL.val (R.move rfl rfl) rfl rfl rfl ?_
          refine LL.call (R.call rfl rfl rfl) rfl rfl rfl (find_T _ _ _ _ _ (by first | assumption | omega) (by first | assumption | omega) (by first | assumption | omega) (by first | assumption | omega)) ?_
          rintro e Wh8 ⟨rfl, bh7⟩
          refine ⟨_, rfl, ?_⟩
          have zbh7 := bh7.size
          replace bh4 := bh4.trans (bh7.mono bh4.size)
          replace bh1 := bh1.trans (bh7.mono bh1.size)
          replace q := q.trans (bh7.mono q.size)
          replace q2 := q2.trans (bh7.mono q2.size)
          replace hs := hs.up bh7
          replace r4 := r4.up bh7
          replace hv := hv.up bh7
          replace h1 := h1.up bh7
          replace h2 := h2.up bh7
          replace h4 := h4.up bh7
          replace h5 := h5.up bh7
          refine LL.val (R.move rfl rfl) rfl rfl rfl ?_
          refine LL.val (R.extract rfl rfl rfl) rfl rfl rfl ?_
          refine LL.val (R.extract rfl rfl rfl) rfl rfl rfl ?_
          refine LL.val (R.assign rfl rfl) rfl rfl rfl ?_
          refine LL.val (R.assign rfl rfl) rfl rfl rfl ?_
          refine LL.nilS ?_
          refine CC.seq ?_
          refine CC.seq ?_
          refine CC.region ?_
          refine LL.val (R.move rfl rfl) rfl rfl rfl ?_
          refine LL.val (R.field rfl rfl (I.fld rfl)) rfl rfl rfl ?_
          refine LL.val (R.load rfl rfl (I.ld1 rfl (RowL.cell r4 rfl))) rfl rfl rfl ?_
          refine LL.vsplit (fun h => R.geT rfl rfl rfl h) (fun h => R.geF rfl rfl rfl (Int.not_le.1 h)) rfl rfl rfl (fun ch10 => ?_) (fun ch10 => ?_)
          refine LL.val (R.move rfl rfl) rfl rfl rfl ?_
          refine LL.val (R.move rfl rfl) rfl rfl rfl ?_
          refine LL.val (R.field rfl rfl (I.fld rfl)) rfl rfl rfl ?_
          refine LL.val (R.load rfl rfl (I.ld1 rfl (RowL.cell r4 rfl))) rfl rfl rfl ?_
          refine LL.val (R.subN rfl rfl rfl (by omega) (by omega)) rfl rfl rfl ?_
          refine LL.val (R.field rfl rfl (I.fld rfl)) rfl rfl rfl ?_
          refine LL.val (R.load rfl rfl (I.ld1 rfl (RowL.cell r4 rfl))) rfl rfl rfl ?_
          refine LL.val (R.ltF rfl rfl rfl (by omega)) rfl rfl rfl ?_
          refine LL.val (R.pick rfl rfl rfl) rfl rfl rfl ?_
          refine LL.nilS ?_
          refine CC.no rfl ?_
          refine CC.seq ?_
          refine CC.region ?_
          refine LL.val (R.move rfl rfl) rfl rfl rfl ?_
          refine LL.val (R.move rfl rfl) rfl rfl rfl ?_
          refine LL.val (R.neBool rfl rfl rfl rfl rfl) rfl rfl rfl ?_
          refine LL.val (R.move rfl rfl) rfl rfl rfl ?_
          refine LL.val (R.move rfl rfl) rfl rfl rfl ?_
          refine LL.val (R.move rfl rfl) rfl rfl rfl ?_
          refine LL.val (R.neF rfl rfl rfl (by omega)) rfl rfl rfl ?_
          refine LL.val (R.pick rfl rfl rfl) rfl rfl rfl ?_
          refine LL.val (R.move rfl rfl) rfl rfl rfl ?_
          refine LL.val (R.move rfl rfl) rfl rfl rfl ?_
          refine LL.val (R.move rfl rfl) rfl rfl rfl ?_
          refine LL.val (R.move rfl rfl) rfl rfl rfl ?_
          refine LL.val (R.move rfl rfl) rfl rfl rfl ?_
          refine LL.call (R.call rfl rfl rfl) rfl rfl rfl (in_F _ _ _ _ (by first | assumption | omega) (by first | assumption | omega) (by first | assumption | omega) (by first | assumption | omega) (by first | assumption | omega)) ?_
          rintro e Wh12 ⟨rfl, bh11⟩
          refine ⟨_, rfl, ?_⟩
          have zbh11 := bh11.size
          replace bh7 := bh7.trans (bh11.mono bh7.size)
          replace bh4 := bh4.trans (bh11.mono bh4.size)
          replace bh1 := bh1.trans (bh11.mono bh1.size)
          replace q := q.trans (bh11.mono q.size)
          replace q2 := q2.trans (bh11.mono q2.size)
          replace hs := hs.up bh11
          replace r4 := r4.up bh11
          replace hv := hv.up bh11
          replace h1 := h1.up bh11
          replace h2 := h2.up bh11
          replace h4 := h4.up bh11
          replace h5 := h5.up bh11
          refine LL.val (R.pick rfl rfl rfl) rfl rfl rfl ?_
          refine LL.val (R.pick rfl rfl rfl) rfl rfl rfl ?_
          refine LL.nilS ?_
          refine CC.no rfl ?_
          refine CC.skip ?_
          refine EE.thenN ?_
          refine CC.seq ?_
          refine CC.region ?_
          refine LL.val (R.move rfl rfl) rfl rfl rfl ?_
          refine LL.val (R.move rfl rfl) rfl rfl rfl ?_
          refine LL.val (R.move rfl rfl) rfl rfl rfl ?_
          refine LL.val (R.move rfl rfl) rfl rfl rfl ?_
          refine LL.val (R.move rfl rfl) rfl rfl rfl ?_
          refine LL.val (R.ltT rfl rfl rfl (by omega)) rfl rfl rfl ?_
          refine LL.val (R.pick rfl rfl rfl) rfl rfl rfl ?_
          refine LL.val (R.neBool rfl rfl rfl rfl rfl) rfl rfl rfl ?_
          refine LL.val (R.move rfl rfl) rfl rfl rfl ?_
          refine LL.val (R.move rfl rfl) rfl rfl rfl ?_
          refine LL.val (R.move rfl rfl) rfl rfl rfl ?_
          refine LL.val (R.move rfl rfl) rfl rfl rfl ?_
          refine LL.val (R.move rfl rfl) rfl rfl rfl ?_
          refine LL.val (R.neF rfl rfl rfl (by omega)) rfl rfl rfl ?_
          refine LL.val (R.pick rfl rfl rfl) rfl rfl rfl ?_
          refine LL.val (R.pick rfl rfl rfl) rfl rfl rfl ?_
          refine LL.val (R.move rfl rfl) rfl rfl rfl ?_
          refine LL.val (R.move rfl rfl) rfl rfl rfl ?_
          refine LL.val (R.move rfl rfl) rfl rfl rfl ?_
          refine LL.val (R.move rfl rfl) rfl rfl rfl ?_
          refine LL.val (R.not rfl rfl) rfl rfl rfl ?_
          refine LL.val (R.pick rfl rfl rfl) rfl rfl rfl ?_
          refine LL.val (R.move rfl rfl) rfl rfl rfl ?_
          refine LL.skip rfl rfl ?_
          refine LL.skip rfl rfl ?_
          refine LL.skip rfl rfl ?_
          refine LL.skip rfl rfl ?_
          refine LL.val (R.pick rfl rfl rfl) rfl rfl rfl ?_
          refine LL.val (R.pick rfl rfl rfl) rfl rfl rfl ?_
          refine LL.nilS ?_
          refine CC.no rfl ?_
          refine CC.skip ?_
          refine EE.inN ?_
          refine EE.thenN ?_
          refine CC.region ?_
          refine LL.val (R.move rfl rfl) rfl rfl rfl ?_
          refine LL.val (R.addNc rfl rfl rfl rfl (by omega)) rfl rfl rfl ?_
          refine LL.val (R.assign rfl rfl) rfl rfl rfl ?_
          refine LL.nil ?_
          exact EE.round (i + 1) ⟨rfl, rfl, rfl, rfl, rfl, rfl, rfl, rfl, trivial⟩ ⟨by omega, q, q2, hs, r4⟩ (by omega)
          refine LL.val (R.move rfl rfl) rfl rfl rfl ?_
          refine LL.skip rfl rfl ?_
          refine LL.skip rfl rfl ?_
          refine LL.skip rfl rfl ?_
          refine LL.skip rfl rfl ?_
          refine LL.skip rfl rfl ?_
          refine LL.skip rfl rfl ?_
          refine LL.skip rfl rfl ?_
          refine LL.val (R.pick rfl rfl rfl) rfl rfl rfl ?_
          refine LL.nilS ?_
          refine CC.no rfl ?_
          refine CC.seq ?_
          refine CC.region ?_
          refine LL.val (R.move rfl rfl) rfl rfl rfl ?_
          refine LL.val (R.move rfl rfl) rfl rfl rfl ?_
          refine LL.val (R.neBool rfl rfl rfl rfl rfl) rfl rfl rfl ?_
          refine LL.val (R.move rfl rfl) rfl rfl rfl ?_
          refine LL.val (R.move rfl rfl) rfl rfl rfl ?_
          refine LL.val (R.move rfl rfl) rfl rfl rfl ?_
          refine LL.val (R.neF rfl rfl rfl (by omega)) rfl rfl rfl ?_
          refine LL.val (R.pick rfl rfl rfl) rfl rfl rfl ?_
          refine LL.val (R.move rfl rfl) rfl rfl rfl ?_
          refine LL.val (R.move rfl rfl) rfl rfl rfl ?_
          refine LL.val (R.move rfl rfl) rfl rfl rfl ?_
          refine LL.val (R.move rfl rfl) rfl rfl rfl ?_
          refine LL.val (R.move rfl rfl) rfl rfl rfl ?_
          refine LL.call (R.call rfl rfl rfl) rfl rfl rfl (in_F _ _ _ _ (by first | assumption | omega) (by first | assumption | omega) (by first | assumption | omega) (by first | assumption | omega) (by first | assumption | omega)) ?_
          rintro e Wh15 ⟨rfl, bh14⟩
          refine ⟨_, rfl, ?_⟩
          have zbh14 := bh14.size
          replace bh7 := bh7.trans (bh14.mono bh7.size)
          replace bh4 := bh4.trans (bh14.mono bh4.size)
          replace bh1 := bh1.trans (bh14.mono bh1.size)
          replace q := q.trans (bh14.mono q.size)
          replace q2 := q2.trans (bh14.mono q2.size)
          replace hs := hs.up bh14
          replace r4 := r4.up bh14
          replace hv := hv.up bh14
          replace h1 := h1.up bh14
          replace h2 := h2.up bh14
          replace h4 := h4.up bh14
          replace h5 := h5.up bh14
          refine LL.val (R.pick rfl rfl rfl) rfl rfl rfl ?_
          refine LL.val (R.pick rfl rfl rfl) rfl rfl rfl ?_
          refine LL.nilS ?_
          refine CC.no rfl ?_
          refine CC.skip ?_
          refine EE.thenN ?_
          refine CC.seq ?_
          refine CC.region ?_
          refine LL.val (R.move rfl rfl) rfl rfl rfl ?_
          refine LL.val (R.move rfl rfl) rfl rfl rfl ?_
          refine LL.val (R.move rfl rfl) rfl rfl rfl ?_
          refine LL.val (R.move rfl rfl) rfl rfl rfl ?_
          refine LL.val (R.move rfl rfl) rfl rfl rfl ?_
          refine LL.val (R.ltT rfl rfl rfl (by omega)) rfl rfl rfl ?_
          refine LL.val (R.pick rfl rfl rfl) rfl rfl rfl ?_
          refine LL.val (R.neBool rfl rfl rfl rfl rfl) rfl rfl rfl ?_
          refine LL.val (R.move rfl rfl) rfl rfl rfl ?_
          refine LL.val (R.move rfl rfl) rfl rfl rfl ?_
          refine LL.val (R.move rfl rfl) rfl rfl rfl ?_
          refine LL.val (R.move rfl rfl) rfl rfl rfl ?_
          refine LL.val (R.move rfl rfl) rfl rfl rfl ?_
          refine LL.val (R.neF rfl rfl rfl (by omega)) rfl rfl rfl ?_
          refine LL.val (R.pick rfl rfl rfl) rfl rfl rfl ?_
          refine LL.val (R.pick rfl rfl rfl) rfl rfl rfl ?_
          refine LL.val (R.move rfl rfl) rfl rfl rfl ?_
          refine LL.val (R.move rfl rfl) rfl rfl rfl ?_
          refine LL.val (R.move rfl rfl) rfl rfl rfl ?_
          refine LL.val (R.move rfl rfl) rfl rfl rfl ?_
          refine LL.val (R.not rfl rfl) rfl rfl rfl ?_
          refine LL.val (R.pick rfl rfl rfl) rfl rfl rfl ?_
          refine LL.val (R.move rfl rfl) rfl rfl rfl ?_
          refine LL.skip rfl rfl ?_
          refine LL.skip rfl rfl ?_
          refine LL.skip rfl rfl ?_
          refine LL.skip rfl rfl ?_
          refine LL.val (R.pick rfl rfl rfl) rfl rfl rfl ?_
          refine LL.val (R.pick rfl rfl rfl) rfl rfl rfl ?_
          refine LL.nilS ?_
          refine CC.no rfl ?_
          refine CC.skip ?_
          refine EE.inN ?_
          refine EE.thenN ?_
          refine CC.region ?_
          refine LL.val (R.move rfl rfl) rfl rfl rfl ?_
          refine LL.val (R.addNc rfl rfl rfl rfl (by omega)) rfl rfl rfl ?_
          refine LL.val (R.assign rfl rfl) rfl rfl rfl ?_
          refine LL.nil ?_
          exact EE.round (i + 1) ⟨rfl, rfl, rfl, rfl, rfl, rfl, rfl, rfl, trivial⟩ ⟨by omega, q, q2, hs, r4⟩ (by omega)
        · obtain ⟨e3, hi3⟩ := hhi hb
          have hi4 := hi3 w0
          rw [e3] at f3
          clear hlo hhi h3 hi3
          refine CC.seq ?_
          refine CC.seq ?_
          refine CC.region ?_
          refine LL.val (R.move rfl rfl) rfl rfl rfl ?_
          refine LL.val (R.ltT rfl rfl rfl (by omega)) rfl rfl rfl ?_
          refine LL.nilS ?_
          refine CC.yes rfl ?_
          refine CC.skip ?_
          refine EE.thenN ?_
          refine CC.seq ?_
          refine CC.block ?_
          refine CC.seq ?_
          refine CC.region ?_
          refine LL.val (R.move rfl rfl) rfl rfl rfl ?_
          refine LL.val (R.move rfl rfl) rfl rfl rfl ?_
          refine LL.call (R.call rfl rfl rfl) rfl rfl rfl (find_T _ _ _ _ _ (by first | assumption | omega) (by first | assumption | omega) (by first | assumption | omega) (by first | assumption | omega)) ?_
          rintro e Wi2 ⟨rfl, bi1⟩
          refine ⟨_, rfl, ?_⟩
          have zbi1 := bi1.size
          replace q := q.trans (bi1.mono q.size)
          replace q2 := q2.trans (bi1.mono q2.size)
          replace hs := hs.up bi1
          replace r4 := r4.up bi1
          replace hv := hv.up bi1
          replace h1 := h1.up bi1
          replace h2 := h2.up bi1
          replace h4 := h4.up bi1
          replace h5 := h5.up bi1
          refine LL.val (R.move rfl rfl) rfl rfl rfl ?_
          refine LL.val (R.extract rfl rfl rfl) rfl rfl rfl ?_
          refine LL.val (R.extract rfl rfl rfl) rfl rfl rfl ?_
          refine LL.val (R.assign rfl rfl) rfl rfl rfl ?_
          refine LL.val (R.assign rfl rfl) rfl rfl rfl ?_
          refine LL.nilS ?_
          refine CC.seq ?_
          refine CC.region ?_
          refine LL.val (R.move rfl rfl) rfl rfl rfl ?_
          refine LL.val (R.move rfl rfl) rfl rfl rfl ?_
          refine LL.call (R.call rfl rfl rfl) rfl rfl rfl (find_T _ _ _ _ _ (by first | assumption | omega) (by first | assumption | omega) (by first | assumption | omega) (by first | assumption | omega)) ?_
          rintro e Wi5 ⟨rfl, bi4⟩
          refine ⟨_, rfl, ?_⟩
          have zbi4 := bi4.size
          replace bi1 := bi1.trans (bi4.mono bi1.size)
          replace q := q.trans (bi4.mono q.size)
          replace q2 := q2.trans (bi4.mono q2.size)
          replace hs := hs.up bi4
          replace r4 := r4.up bi4
          replace hv := hv.up bi4
          replace h1 := h1.up bi4
          replace h2 := h2.up bi4
          replace h4 := h4.up bi4
          replace h5 := h5.up bi4
          refine LL.val (R.move rfl rfl) rfl rfl rfl ?_
          refine LL.val (R.extract rfl rfl rfl) rfl rfl rfl ?_
          refine LL.val (R.extract rfl rfl rfl) rfl rfl rfl ?_
          refine LL.val (R.assign rfl rfl) rfl rfl rfl ?_
          refine LL.val (R.assign rfl rfl) rfl rfl rfl ?_
          refine LL.nilS ?_
          refine CC.seq ?_
          refine CC.region ?_
          refine LL.val (R.move rfl rfl) rfl rfl rfl ?_
          refine LL.val (R.move rfl rfl) rfl rfl rfl ?_
          refine LL.call (R.call rfl rfl rfl) rfl rfl rfl (find_0 _ _ _ _ (by first | assumption | omega) (by first | assumption | omega) (by first | assumption | omega)) ?_
          rintro e Wi8 ⟨rfl, bi7⟩
          refine ⟨_, rfl, ?_⟩
          have zbi7 := bi7.size
          replace bi4 := bi4.trans (bi7.mono bi4.size)
          replace bi1 := bi1.trans (bi7.mono bi1.size)
          replace q := q.trans (bi7.mono q.size)
          replace q2 := q2.trans (bi7.mono q2.size)
          replace hs := hs.up bi7
          replace r4 := r4.up bi7
          replace hv := hv.up bi7
          replace h1 := h1.up bi7
          replace h2 := h2.up bi7
          replace h4 := h4.up bi7
          replace h5 := h5.up bi7
          refine LL.val (R.move rfl rfl) rfl rfl rfl ?_
          refine LL.val (R.extract rfl rfl rfl) rfl rfl rfl ?_
          refine LL.val (R.extract rfl rfl rfl) rfl rfl rfl ?_
          refine LL.val (R.assign rfl rfl) rfl rfl rfl ?_
          refine LL.val (R.assign rfl rfl) rfl rfl rfl ?_
          refine LL.nilS ?_
          refine CC.seq ?_
          refine CC.seq ?_
          refine CC.region ?_
          refine LL.val (R.move rfl rfl) rfl rfl rfl ?_
          refine LL.val (R.field rfl rfl (I.fld rfl)) rfl rfl rfl ?_
          refine LL.val (R.load rfl rfl (I.ld1 rfl (RowL.cell r4 rfl))) rfl rfl rfl ?_
          refine LL.vsplit (fun h => R.geT rfl rfl rfl h) (fun h => R.geF rfl rfl rfl (Int.not_le.1 h)) rfl rfl rfl (fun ci10 => ?_) (fun ci10 => ?_)
          refine LL.val (R.move rfl rfl) rfl rfl rfl ?_
          refine LL.val (R.move rfl rfl) rfl rfl rfl ?_
          refine LL.val (R.field rfl rfl (I.fld rfl)) rfl rfl rfl ?_
          refine LL.val (R.load rfl rfl (I.ld1 rfl (RowL.cell r4 rfl))) rfl rfl rfl ?_
          refine LL.val (R.subN rfl rfl rfl (by omega) (by omega)) rfl rfl rfl ?_
          refine LL.val (R.field rfl rfl (I.fld rfl)) rfl rfl rfl ?_
          refine LL.val (R.load rfl rfl (I.ld1 rfl (RowL.cell r4 rfl))) rfl rfl rfl ?_
          refine LL.val (R.ltF rfl rfl rfl (by omega)) rfl rfl rfl ?_
          refine LL.val (R.pick rfl rfl rfl) rfl rfl rfl ?_
          refine LL.nilS ?_
          refine CC.no rfl ?_
          refine CC.seq ?_
          refine CC.region ?_
          refine LL.val (R.move rfl rfl) rfl rfl rfl ?_
          refine LL.val (R.move rfl rfl) rfl rfl rfl ?_
          refine LL.val (R.neBool rfl rfl rfl rfl rfl) rfl rfl rfl ?_
          refine LL.val (R.move rfl rfl) rfl rfl rfl ?_
          refine LL.val (R.move rfl rfl) rfl rfl rfl ?_
          refine LL.val (R.move rfl rfl) rfl rfl rfl ?_
          refine LL.val (R.neF rfl rfl rfl (by omega)) rfl rfl rfl ?_
          refine LL.val (R.pick rfl rfl rfl) rfl rfl rfl ?_
          refine LL.val (R.move rfl rfl) rfl rfl rfl ?_
          refine LL.val (R.move rfl rfl) rfl rfl rfl ?_
          refine LL.val (R.move rfl rfl) rfl rfl rfl ?_
          refine LL.val (R.move rfl rfl) rfl rfl rfl ?_
          refine LL.val (R.move rfl rfl) rfl rfl rfl ?_
          refine LL.call (R.call rfl rfl rfl) rfl rfl rfl (in_F _ _ _ _ (by first | assumption | omega) (by first | assumption | omega) (by first | assumption | omega) (by first | assumption | omega) (by first | assumption | omega)) ?_
          rintro e Wi12 ⟨rfl, bi11⟩
          refine ⟨_, rfl, ?_⟩
          have zbi11 := bi11.size
          replace bi7 := bi7.trans (bi11.mono bi7.size)
          replace bi4 := bi4.trans (bi11.mono bi4.size)
          replace bi1 := bi1.trans (bi11.mono bi1.size)
          replace q := q.trans (bi11.mono q.size)
          replace q2 := q2.trans (bi11.mono q2.size)
          replace hs := hs.up bi11
          replace r4 := r4.up bi11
          replace hv := hv.up bi11
          replace h1 := h1.up bi11
          replace h2 := h2.up bi11
          replace h4 := h4.up bi11
          replace h5 := h5.up bi11
          refine LL.val (R.pick rfl rfl rfl) rfl rfl rfl ?_
          refine LL.val (R.pick rfl rfl rfl) rfl rfl rfl ?_
          refine LL.nilS ?_
          refine CC.no rfl ?_
          refine CC.skip ?_
          refine EE.thenN ?_
          refine CC.seq ?_
          refine CC.region ?_
          refine LL.val (R.move rfl rfl) rfl rfl rfl ?_
          refine LL.val (R.move rfl rfl) rfl rfl rfl ?_
          refine LL.val (R.move rfl rfl) rfl rfl rfl ?_
          refine LL.val (R.move rfl rfl) rfl rfl rfl ?_
          refine LL.val (R.move rfl rfl) rfl rfl rfl ?_
          refine LL.val (R.ltF rfl rfl rfl (by omega)) rfl rfl rfl ?_
          refine LL.val (R.pick rfl rfl rfl) rfl rfl rfl ?_
          refine LL.val (R.neBool rfl rfl rfl rfl rfl) rfl rfl rfl ?_
          refine LL.val (R.move rfl rfl) rfl rfl rfl ?_
          refine LL.val (R.move rfl rfl) rfl rfl rfl ?_
          refine LL.val (R.move rfl rfl) rfl rfl rfl ?_
          refine LL.skip rfl rfl ?_
          refine LL.skip rfl rfl ?_
          refine LL.skip rfl rfl ?_
          refine LL.val (R.pick rfl rfl rfl) rfl rfl rfl ?_
          refine LL.val (R.pick rfl rfl rfl) rfl rfl rfl ?_
          refine LL.val (R.move rfl rfl) rfl rfl rfl ?_
          refine LL.val (R.move rfl rfl) rfl rfl rfl ?_
          refine LL.val (R.move rfl rfl) rfl rfl rfl ?_
          refine LL.val (R.move rfl rfl) rfl rfl rfl ?_
          refine LL.val (R.not rfl rfl) rfl rfl rfl ?_
          refine LL.val (R.pick rfl rfl rfl) rfl rfl rfl ?_
          refine LL.val (R.move rfl rfl) rfl rfl rfl ?_
          refine LL.val (R.move rfl rfl) rfl rfl rfl ?_
          refine LL.val (R.move rfl rfl) rfl rfl rfl ?_
          refine LL.call (R.call rfl rfl rfl) rfl rfl rfl (in_T _ _ _ _ (by first | assumption | omega) (by first | assumption | omega) (by first | assumption | omega) (by first | assumption | omega) (by first | assumption | omega)) ?_
          rintro e Wi15 ⟨rfl, bi14⟩
          refine ⟨_, rfl, ?_⟩
          have zbi14 := bi14.size
          replace bi11 := bi11.trans (bi14.mono bi11.size)
          replace bi7 := bi7.trans (bi14.mono bi7.size)
          replace bi4 := bi4.trans (bi14.mono bi4.size)
          replace bi1 := bi1.trans (bi14.mono bi1.size)
          replace q := q.trans (bi14.mono q.size)
          replace q2 := q2.trans (bi14.mono q2.size)
          replace hs := hs.up bi14
          replace r4 := r4.up bi14
          replace hv := hv.up bi14
          replace h1 := h1.up bi14
          replace h2 := h2.up bi14
          replace h4 := h4.up bi14
          replace h5 := h5.up bi14
          refine LL.val (R.not rfl rfl) rfl rfl rfl ?_
          refine LL.val (R.pick rfl rfl rfl) rfl rfl rfl ?_
          refine LL.val (R.pick rfl rfl rfl) rfl rfl rfl ?_
          refine LL.nilS ?_
          refine CC.no rfl ?_
          refine CC.skip ?_
          refine EE.inN ?_
          refine EE.thenN ?_
          refine CC.region ?_
          refine LL.val (R.move rfl rfl) rfl rfl rfl ?_
          refine LL.val (R.addNc rfl rfl rfl rfl (by omega)) rfl rfl rfl ?_
          refine LL.val (R.assign rfl rfl) rfl rfl rfl ?_
          refine LL.nil ?_
          exact EE.round (i + 1) ⟨rfl, rfl, rfl, rfl, rfl, rfl, rfl, rfl, trivial⟩ ⟨by omega, q, q2, hs, r4⟩ (by omega)
          refine LL.val (R.move rfl rfl) rfl rfl rfl ?_
          refine LL.skip rfl rfl ?_
          refine LL.skip rfl rfl ?_
          refine LL.skip rfl rfl ?_
          refine LL.skip rfl rfl ?_
          refine LL.skip rfl rfl ?_
          refine LL.skip rfl rfl ?_
          refine LL.skip rfl rfl ?_
          refine LL.val (R.pick rfl rfl rfl) rfl rfl rfl ?_
          refine LL.nilS ?_
          refine CC.no rfl ?_
          refine CC.seq ?_
          refine CC.region ?_
          refine LL.val (R.move rfl rfl) rfl rfl rfl ?_
          refine LL.val (R.move rfl rfl) rfl rfl rfl ?_
          refine LL.val (R.neBool rfl rfl rfl rfl rfl) rfl rfl rfl ?_
          refine LL.val (R.move rfl rfl) rfl rfl rfl ?_
          refine LL.val (R.move rfl rfl) rfl rfl rfl ?_
          refine LL.val (R.move rfl rfl) rfl rfl rfl ?_
          refine LL.val (R.neF rfl rfl rfl (by omega)) rfl rfl rfl ?_
          refine LL.val (R.pick rfl rfl rfl) rfl rfl rfl ?_
          refine LL.val (R.move rfl rfl) rfl rfl rfl ?_
          refine LL.val (R.move rfl rfl) rfl rfl rfl ?_
          refine LL.val (R.move rfl rfl) rfl rfl rfl ?_
          refine LL.val (R.move rfl rfl) rfl rfl rfl ?_
          refine LL.val (R.move rfl rfl) rfl rfl rfl ?_
          refine LL.call (R.call rfl rfl rfl) rfl rfl rfl (in_F _ _ _ _ (by first | assumption | omega) (by first | assumption | omega) (by first | assumption | omega) (by first | assumption | omega) (by first | assumption | omega)) ?_
          rintro e Wi18 ⟨rfl, bi17⟩
          refine ⟨_, rfl, ?_⟩
          have zbi17 := bi17.size
          replace bi7 := bi7.trans (bi17.mono bi7.size)
          replace bi4 := bi4.trans (bi17.mono bi4.size)
          replace bi1 := bi1.trans (bi17.mono bi1.size)
          replace q := q.trans (bi17.mono q.size)
          replace q2 := q2.trans (bi17.mono q2.size)
          replace hs := hs.up bi17
          replace r4 := r4.up bi17
          replace hv := hv.up bi17
          replace h1 := h1.up bi17
          replace h2 := h2.up bi17
          replace h4 := h4.up bi17
          replace h5 := h5.up bi17
          refine LL.val (R.pick rfl rfl rfl) rfl rfl rfl ?_
          refine LL.val (R.pick rfl rfl rfl) rfl rfl rfl ?_
          refine LL.nilS ?_
          refine CC.no rfl ?_
          refine CC.skip ?_
          refine EE.thenN ?_
          refine CC.seq ?_
          refine CC.region ?_
          refine LL.val (R.move rfl rfl) rfl rfl rfl ?_
          refine LL.val (R.move rfl rfl) rfl rfl rfl ?_
          refine LL.val (R.move rfl rfl) rfl rfl rfl ?_
          refine LL.val (R.move rfl rfl) rfl rfl rfl ?_
          refine LL.val (R.move rfl rfl) rfl rfl rfl ?_
          refine LL.val (R.ltF rfl rfl rfl (by omega)) rfl rfl rfl ?_
          refine LL.val (R.pick rfl rfl rfl) rfl rfl rfl ?_
          refine LL.val (R.neBool rfl rfl rfl rfl rfl) rfl rfl rfl ?_
          refine LL.val (R.move rfl rfl) rfl rfl rfl ?_
          refine LL.val (R.move rfl rfl) rfl rfl rfl ?_
          refine LL.val (R.move rfl rfl) rfl rfl rfl ?_
          refine LL.skip rfl rfl ?_
          refine LL.skip rfl rfl ?_
          refine LL.skip rfl rfl ?_
          refine LL.val (R.pick rfl rfl rfl) rfl rfl rfl ?_
          refine LL.val (R.pick rfl rfl rfl) rfl rfl rfl ?_
          refine LL.val (R.move rfl rfl) rfl rfl rfl ?_
          refine LL.val (R.move rfl rfl) rfl rfl rfl ?_
          refine LL.val (R.move rfl rfl) rfl rfl rfl ?_
          refine LL.val (R.move rfl rfl) rfl rfl rfl ?_
          refine LL.val (R.not rfl rfl) rfl rfl rfl ?_
          refine LL.val (R.pick rfl rfl rfl) rfl rfl rfl ?_
          refine LL.val (R.move rfl rfl) rfl rfl rfl ?_
          refine LL.val (R.move rfl rfl) rfl rfl rfl ?_
          refine LL.val (R.move rfl rfl) rfl rfl rfl ?_
          refine LL.call (R.call rfl rfl rfl) rfl rfl rfl (in_T _ _ _ _ (by first | assumption | omega) (by first | assumption | omega) (by first | assumption | omega) (by first | assumption | omega) (by first | assumption | omega)) ?_
          rintro e Wi21 ⟨rfl, bi20⟩
          refine ⟨_, rfl, ?_⟩
          have zbi20 := bi20.size
          replace bi17 := bi17.trans (bi20.mono bi17.size)
          replace bi7 := bi7.trans (bi20.mono bi7.size)
          replace bi4 := bi4.trans (bi20.mono bi4.size)
          replace bi1 := bi1.trans (bi20.mono bi1.size)
          replace q := q.trans (bi20.mono q.size)
          replace q2 := q2.trans (bi20.mono q2.size)
          replace hs := hs.up bi20
          replace r4 := r4.up bi20
          replace hv := hv.up bi20
          replace h1 := h1.up bi20
          replace h2 := h2.up bi20
          replace h4 := h4.up bi20
          replace h5 := h5.up bi20
          refine LL.val (R.not rfl rfl) rfl rfl rfl ?_
          refine LL.val (R.pick rfl rfl rfl) rfl rfl rfl ?_
          refine LL.val (R.pick rfl rfl rfl) rfl rfl rfl ?_
          refine LL.nilS ?_
          refine CC.no rfl ?_
          refine CC.skip ?_
          refine EE.inN ?_
          refine EE.thenN ?_
          refine CC.region ?_
          refine LL.val (R.move rfl rfl) rfl rfl rfl ?_
          refine LL.val (R.addNc rfl rfl rfl rfl (by omega)) rfl rfl rfl ?_
          refine LL.val (R.assign rfl rfl) rfl rfl rfl ?_
          refine LL.nil ?_
          exact EE.round (i + 1) ⟨rfl, rfl, rfl, rfl, rfl, rfl, rfl, rfl, trivial⟩ ⟨by omega, q, q2, hs, r4⟩ (by omega)
  obtain rfl : i = 128 := by omega
  clear hat
  obtain ⟨M, hM⟩ : ∃ M, (gatR (dvF (plL l) f k)).length = M := ⟨_, rfl⟩
  have hMb : M ≤ 128 := by have := gatR_len (dvF (plL l) f k); have := dvF_len (plL l) f k; omega
  obtain ⟨a2, c2, rfl, hc2⟩ := h2.form hM
  clear hv h1 h2 h4 h5
  refine CC.seq ?_
  refine CC.seq ?_
  refine CC.region ?_
  refine LL.val (R.move rfl rfl) rfl rfl rfl ?_
  refine LL.val (R.ltF rfl rfl rfl (by omega)) rfl rfl rfl ?_
  refine LL.nilS ?_
  refine CC.no rfl ?_
  refine CC.exit ?_
  refine EE.thenX ?_
  refine EE.thenX ?_
  refine EE.inX ?_
  refine EE.thenN ?_
  refine CC.seq ?_
  refine CC.region ?_
  refine LL.val (R.assign rfl rfl) rfl rfl rfl ?_
  refine LL.nilS ?_
  refine CC.seq ?_
  refine CC.seq ?_
  refine CC.region ?_
  refine LL.val (R.assign rfl rfl) rfl rfl rfl ?_
  refine LL.nilS ?_
  refine CC.block ?_
  refine CC.loop (α := Nat × Int) (fun s => [(0, .slice a N cap), (4, .pointer (some ⟨g3, 0, none⟩)), (7, v1), (8, .slice a2 M c2), (20, .int .i64 s.2), (21, .int .i64 (s.1 : Int))]) (fun s W => s.1 ≤ M ∧ s.2 = sumR ((gatR (dvF (plL l) f k)).take s.1) ∧ (0 ≤ s.2 ∧ s.2 ≤ 4096 * (s.1 : Int)) ∧ Below w.heap.size w W ∧ Below W2.heap.size W2 W ∧ Start W ∧ RowL W g3 41 [.int .i64 (f : Int), .int .i64 (d : Int), .int .i64 (k : Int)]) (fun s => M - s.1) (0, 0) ⟨rfl, rfl, rfl, rfl, rfl, rfl, trivial⟩ ⟨by show 0 ≤ M; omega, rfl, by show (0 : Int) ≤ 0 ∧ (0 : Int) ≤ 4096 * ((0 : Nat) : Int); omega, q, q2, hs, r4⟩ ?_
  clear q q2 hs r4
  rintro ⟨j, s⟩ W ⟨hj, hsE, hsb, q, q2, hs, r4⟩
  simp only at hj hsE hsb
  show CC none Tryd.prog _ 181 [] (sl [(0, .slice a N cap), (4, .pointer (some ⟨g3, 0, none⟩)), (7, v1), (8, .slice a2 M c2), (20, .int .i64 s), (21, .int .i64 (j : Int))]) _ W
  by_cases hjM : j < M
  · obtain ⟨x, hx⟩ : ∃ x, (gatR (dvF (plL l) f k))[j]? = some x := ⟨_, List.getElem?_eq_getElem (by omega)⟩
    have hbx := hlb1 x (List.mem_of_getElem? hx)
    unfold litB at hbx
    obtain ⟨bk, off, rfl, hbk, hcs⟩ := (h2G W q2).get rEnc hx
    have c1 := hcs.at (j := 1) rfl
    clear hcs
    have hst : sumR ((gatR (dvF (plL l) f k)).take (j + 1)) = s + x.2 := by
      rw [List.take_add_one, hx, sumR_app, ← hsE]
      simp [sumR]
    clear hlb1 hlb2 hcnt hsum
    refine CC.seq ?_
    refine CC.seq ?_
    refine CC.region ?_
    refine LL.val (R.move rfl rfl) rfl rfl rfl ?_
    refine LL.val (R.move rfl rfl) rfl rfl rfl ?_
    refine LL.val (R.len rfl rfl rfl rfl) rfl rfl rfl ?_
    refine LL.val (R.ltT rfl rfl rfl (by omega)) rfl rfl rfl ?_
    refine LL.nilS ?_
    refine CC.yes rfl ?_
    refine CC.skip ?_
    refine EE.thenN ?_
    refine CC.seq ?_
    refine CC.block ?_
    refine CC.region ?_
    refine LL.val (R.move rfl rfl) rfl rfl rfl ?_
    refine LL.val (R.move rfl rfl) rfl rfl rfl ?_
    refine LL.val (R.move rfl rfl) rfl rfl rfl ?_
    refine LL.val (R.index rfl rfl rfl (I.ixS rfl (by omega))) rfl rfl rfl ?_
    refine LL.val (R.field rfl rfl (I.fld rfl)) rfl rfl rfl ?_
    refine LL.val (R.load rfl rfl (I.ld1 rfl (by assumption))) rfl rfl rfl ?_
    refine LL.val (R.addI rfl rfl rfl (by omega)) rfl rfl rfl ?_
    refine LL.val (R.assign rfl rfl) rfl rfl rfl ?_
    refine LL.nil ?_
    refine EE.inN ?_
    refine EE.thenN ?_
    refine CC.region ?_
    refine LL.val (R.move rfl rfl) rfl rfl rfl ?_
    refine LL.val (R.addNc rfl rfl rfl rfl (by omega)) rfl rfl rfl ?_
    refine LL.val (R.assign rfl rfl) rfl rfl rfl ?_
    refine LL.nil ?_
    exact EE.round (j + 1, s + x.2) ⟨rfl, rfl, rfl, rfl, rfl, rfl, trivial⟩ ⟨by show j + 1 ≤ M; omega, hst.symm, by show 0 ≤ s + x.2 ∧ s + x.2 ≤ 4096 * ((j + 1 : Nat) : Int); omega, q, q2, hs, r4⟩ (by show M - (j + 1) < M - j; omega)
  obtain rfl : j = M := by omega
  rw [List.take_of_length_le (by omega), hsum] at hsE
  have hv := hvG W q2
  have h1 := h1G W q2
  have hbk1 : ∀ w', Below W.heap.size W w' → Calls Tryd.prog 15 #[.slice a N cap] w' fun e w'' => e = .returned (.int .i64 ((blS (eL l)).length : Int)) ∧ Below w'.heap.size w' w'' := fun w' b => nblocks_any l _ w' (hv.up b) (by omega)
  have hbk2 : ∀ w', Below W.heap.size W w' → Calls Tryd.prog 15 #[v1] w' fun e w'' => e = .returned (.int .i64 ((blS (eL m)).length : Int)) ∧ Below w'.heap.size w' w'' := fun w' b => nblocks_any m _ w' (h1.up b) (by omega)
  have hwkF : ∀ w', Below W.heap.size W w' → Calls Tryd.prog 9 #[] w' fun e w'' => e = .returned (.bool true) ∧ Below w'.heap.size w' w'' := fun w' b => works_any w' (hs.up b)
  clear hlb1 hlb2 hsum
  refine CC.seq ?_
  refine CC.seq ?_
  refine CC.region ?_
  refine LL.val (R.move rfl rfl) rfl rfl rfl ?_
  refine LL.val (R.move rfl rfl) rfl rfl rfl ?_
  refine LL.val (R.len rfl rfl rfl rfl) rfl rfl rfl ?_
  refine LL.val (R.ltF rfl rfl rfl (by omega)) rfl rfl rfl ?_
  refine LL.nilS ?_
  refine CC.no rfl ?_
  refine CC.exit ?_
  refine EE.thenX ?_
  refine EE.thenX ?_
  refine EE.inX ?_
  refine EE.thenN ?_
  refine CC.seq ?_
  refine CC.grow (by kernel_rfl) (by kernel_rfl) ?_
  refine GG.val (fun w' b' => R.move rfl rfl) rfl rfl ?_
  refine GG.call (fun w' => (R.call rfl rfl rfl)) rfl rfl (fun w' b' => (hbk2 w' b').mono fun e W' h => ⟨h.1, b'.trans (h.2.mono b'.size)⟩) ?_
  refine GG.val (fun w' b' => R.move rfl rfl) rfl rfl ?_
  refine GG.call (fun w' => (R.call rfl rfl rfl)) rfl rfl (fun w' b' => (hbk1 w' b').mono fun e W' h => ⟨h.1, b'.trans (h.2.mono b'.size)⟩) ?_
  refine GG.val (fun w' b' => R.field rfl rfl (I.fld rfl)) rfl rfl ?_
  refine GG.val (fun w' b' => R.load rfl rfl (I.ld1 rfl (RowL.cell (r4.up b') rfl))) rfl rfl ?_
  refine GG.val (fun w' b' => R.addN rfl rfl rfl (by omega)) rfl rfl ?_
  refine GG.val (fun w' b' => R.move rfl rfl) rfl rfl ?_
  refine GG.val (fun w' b' => R.subI rfl rfl rfl (by omega)) rfl rfl ?_
  refine GG.val (fun w' b' => R.eqT rfl rfl rfl (by omega)) rfl rfl ?_
  refine GG.val (fun w' b' => R.move rfl rfl) rfl rfl ?_
  refine GG.call (fun w' => (R.call rfl rfl rfl)) rfl rfl (fun w' b' => (hwkF w' b').mono fun e W' h => ⟨h.1, b'.trans (h.2.mono b'.size)⟩) ?_
  refine GG.val (fun w' b' => R.pick rfl rfl rfl) rfl rfl ?_
  refine GG.val (fun w' b' => R.assign rfl rfl) rfl rfl ?_
  refine GG.nilQ (fun Wl5 bl4 => ?_)
  have zbl4 := bl4.size
  replace q := q.trans (bl4.mono q.size)
  replace q2 := q2.trans (bl4.mono q2.size)
  replace hs := hs.up bl4
  replace r4 := r4.up bl4
  replace hv := hv.up bl4
  replace h1 := h1.up bl4
  refine EE.thenN ?_
  refine CC.ret ?_
  refine EE.ret _ rfl rfl ?_
  exact ⟨rfl, q⟩
theorem holdsx_walk (v : Value) (l : List Ex) (x : Ex) (B : Int) (w : World) (hs : Start w) (hv : ReadsT eE 3 w v l) : Calls Tryd.prog 8 #[v, exV x, .int .i64 B] w fun e w' => e = .returned (.bool true) ∧ Below w.heap.size w w' := by
  by_cases h : 30 < l.length
  · exact holds_big l x B v w hs hv h
  by_cases hok : okPut l x
  case neg => exact holds_no l x B v w hs hv (by omega) hok
  obtain ⟨f, d, k, rfl, _⟩ := pkZ_nat hok.2.1
  by_cases hn : 10 < (gat (nz (setN (plL l) f d k))).length
  · exact holds_long l f d k B v w hs hv (by omega) hok hn
  by_cases hB : B < 0 ∨ 128 < B
  · exact holds_cut l f d k B v w hs hv (by omega) hok (by omega) hB
  obtain ⟨B, rfl⟩ := Int.eq_ofNat_of_zero_le (show 0 ≤ B by omega)
  exact holds_all l f d k B v w hs hv (by omega) hok (by omega) (by omega)
end Go.Proofs.YtklfopclaonggaaDoor
