/- The document's extents: Of. -/
import Derived.Test.YtklfopclaonggaaDoorEx22
namespace Go.Proofs.YtklfopclaonggaaDoor
set_option linter.unusedVariables false
set_option linter.unusedSimpArgs false
open Go.RowKit Go.Shelf
/-- No two blocks share a number. -/
abbrev dsB (s : List Bl) : Prop := s.Pairwise fun a b => a.1 ≠ b.1 ∧ a.2 ≠ b.2
theorem plF_inD : ∀ {s : List Bl} {p : List Int} {b : Bl}, dsB s → (∀ c ∈ s, 0 ≤ c.1 ∧ c.1 < p.length) → b ∈ s → (plF p s)[b.1.toNat]? = some b.2
  | c :: s, p, b, hu, h0, hb => by
    rw [dsB, List.pairwise_cons] at hu
    show (plF (setB p c) s)[b.1.toNat]? = _
    have hc := h0 c (by simp)
    have hl : (setB p c).length = p.length := by simp [setB]
    by_cases hbs : b ∈ s
    · exact plF_inD hu.2 (fun d hd => by rw [hl]; exact h0 d (by simp [hd])) hbs
    · obtain rfl : b = c := by
        rcases List.mem_cons.1 hb with h | h
        · exact h
        · exact absurd h hbs
      rw [plF_out (fun d hd => (h0 d (by simp [hd])).1) (fun d hd => by have := (hu.1 d hd).1; omega)]
      unfold setB
      rw [List.getElem?_set_self (by omega)]
theorem pl_in {s : List Bl} (hd : dsB s) (hi : inB s) {b : Bl} (hb : b ∈ s) : (plOf s)[b.1.toNat]? = some b.2 :=
  plF_inD hd (fun c hc => by have := hi c hc; simp only [List.length_replicate]; omega) hb
theorem pl_mem {s : List Bl} (hd : dsB s) (hi : inB s) {i : Nat} {z : Int} (h : (plOf s)[i]? = some z) (h0 : z ≠ 0) : ((i : Int), z) ∈ s := by
  by_cases hex : ∃ c ∈ s, c.1 = (i : Int)
  · obtain ⟨c, hc, e⟩ := hex
    have := pl_in hd hi hc
    rw [show c.1.toNat = i by omega, h] at this
    have e2 := Option.some.inj this
    have : ((i : Int), z) = c := Prod.ext e.symm e2
    rw [this]
    exact hc
  · exfalso
    unfold plOf at h
    rw [plF_out (fun c hc => (hi c hc).1) (fun c hc e => hex ⟨c, hc, e⟩), List.getElem?_replicate] at h
    split at h
    · exact h0 (Option.some.inj h).symm
    · cases h
theorem mem_nz_pl {s : List Bl} (hd : dsB s) (hi : inB s) {b : Bl} : b ∈ nz (plOf s) ↔ b ∈ s := by
  rw [nz_mem (plOf_len s)]
  constructor
  · rintro ⟨i, h1, h2, h3⟩
    have := pl_mem hd hi h1 h2
    rwa [← h3] at this
  · intro hb
    have := hi b hb
    exact ⟨b.1.toNat, pl_in hd hi hb, by omega, by omega⟩
theorem ds_inj {s : List Bl} (hd : dsB s) {b c : Bl} (hb : b ∈ s) (hc : c ∈ s) (e : b.2 = c.2) : b = c := by
  obtain ⟨i, hi, rfl⟩ := List.mem_iff_getElem.1 hb
  obtain ⟨j, hj, rfl⟩ := List.mem_iff_getElem.1 hc
  have hp := List.pairwise_iff_getElem.1 hd
  rcases Nat.lt_trichotomy i j with h | rfl | h
  · exact absurd e (hp i j hi hj h).2
  · rfl
  · exact absurd e.symm (hp j i hj hi h).2
theorem pl_small {s : List Bl} (hd : dsB s) (hi : inB s) : smP (plOf s) := ⟨plOf_len s, fun i z hz => by
  by_cases h0 : z = 0
  · omega
  · have := hi _ (pl_mem hd hi hz h0)
    simp only at this
    omega⟩
theorem ds_vL {l : List Ex} (hm : ∀ x ∈ l, mayE x) (hd : dsB (blS l)) (hl : l.length ≤ 10) : gat (nz (plL l)) = l ↔ vL l := by
  constructor
  · intro e
    have hi := blS_in hm
    have := vL_gat (s := nz (plL l)) (nzF_up _ _) (fun b hb => hi b ((mem_nz_pl hd hi).1 hb)) (fun b hb c hc e => by
      have := ds_inj hd ((mem_nz_pl hd hi).1 hb) ((mem_nz_pl hd hi).1 hc) e
      rw [this]) (by rw [e]; exact hl)
    rwa [e] at this
  · exact vL_back
theorem ds_snoc {s : List Bl} {b : Bl} (hd : dsB s) (hi : inB s) (hb : 0 ≤ b.1) (h1 : (plOf s)[b.1.toNat]? = some 0) (h2 : ¬hasP (plOf s) b.2) : dsB (s ++ [b]) := by
  refine List.pairwise_append.2 ⟨hd, by simp, fun c hc d hd' => ?_⟩
  obtain rfl := List.mem_singleton.1 hd'
  have hp := pl_in hd hi hc
  refine ⟨fun e => ?_, fun e => h2 ⟨c.1.toNat, by rw [hp, e]⟩⟩
  rw [e, h1] at hp
  have := hi c hc
  have := Option.some.inj hp
  omega
/-- A block that comes again is in no map's list. -/
theorem no_vL {l : List Ex} {i k : Nat} {x : Ex} (hx : l[i]? = some x) (hk : (k : Int) < x.2.2) {c : Bl} (hc : c ∈ blS (l.take i) ++ (blE x).take k) (he : c.1 = x.1 + (k : Int) ∨ c.2 = x.2.1 + (k : Int)) : ¬vL l := fun hv => by
  have hpre := blS_pre hx (k + 1)
  rw [blE_take hk, ← List.append_assoc] at hpre
  obtain ⟨t, ht⟩ := hpre
  have hu := vL_up hv
  have hj := vL_inj hv
  rw [← ht] at hu hj
  have h1 := (List.pairwise_append.1 (List.pairwise_append.1 hu).1).2.2 c hc (x.1 + (k : Int), x.2.1 + (k : Int)) (by simp)
  simp only at h1
  rcases he with he | he
  · omega
  · have := hj c (List.mem_append_left _ (List.mem_append_left _ hc)) (x.1 + (k : Int), x.2.1 + (k : Int)) (by simp) he
    simp only at this
    omega
theorem rlist_r (p : List Int) (w : World) (hp : smP p) : Calls Tryd.prog 31 #[plV p] w fun e w' => ∃ v, e = .returned v ∧ ReadsT eE 3 w' v (gat (nz p)) ∧ Below w.heap.size w w' :=
  (rlist_any p w hp).mono fun e w' ⟨v, he, o, b⟩ => ⟨v, he, o.reads eEnc, b⟩
set_option maxRecDepth 100000 in
set_option maxHeartbeats 16000000 in
theorem rof_any (l : List Ex) (v : Value) (w : World) (hv : ReadsT eE 3 w v l) (hlen : l.length ≤ 1048576) : Calls Tryd.prog 10 #[v] w fun e w' => (∃ (ms : List Int) (b : Bool), e = .returned (.tuple #[plV ms, .bool b]) ∧ (b = true ↔ vL l) ∧ (vL l → ms = plL l) ∧ ms.length = 128) ∧ Below w.heap.size w w' := by
  have q := Below.refl w.heap.size w
  obtain ⟨N, hN⟩ : ∃ N, l.length = N := ⟨_, rfl⟩
  obtain ⟨a, cap, rfl, hcap⟩ := hv.form hN
  have hvF : ∀ W, Below w.heap.size w W → ReadsT eE 3 W (.slice a N cap) l := fun W hb => hv.up hb
  clear hv
  rw [hN] at hlen
  by_cases h10 : 10 < N
  · have hno : ¬vL l := fun h => by have := h.1; omega
    refine X.fn Tryd.func10 rfl (n := 75) rfl rfl ?_
    refine CC.seq ?_
    refine CC.region ?_
    refine LL.alloc (intsZ .i64 (List.replicate 128 0)) rfl rfl rfl rfl rfl ?_
    intro W2 g3 eg3 r4 z5 b1
    replace q := q.trans (b1.mono q.size)
    refine LL.val (R.assign rfl rfl) rfl rfl rfl ?_
    refine LL.nilS ?_
    refine CC.seq ?_
    refine CC.region ?_
    have l6 := r4.lt
    refine LL.alloc (intsZ .i64 (List.replicate 128 0)) rfl rfl rfl rfl rfl ?_
    intro W8 g9 eg9 r10 z11 b7
    replace r4 := r4.up b7
    replace b1 := b1.trans (b7.mono b1.size)
    replace q := q.trans (b7.mono q.size)
    refine LL.nilS ?_
    refine CC.seq ?_
    refine CC.seq ?_
    refine CC.region ?_
    refine LL.val (R.move rfl rfl) rfl rfl rfl ?_
    refine LL.val (R.len rfl rfl rfl rfl) rfl rfl rfl ?_
    refine LL.val (R.gtT rfl rfl rfl (by omega)) rfl rfl rfl ?_
    refine LL.nilS ?_
    refine CC.yes rfl ?_
    refine CC.seq ?_
    refine CC.region ?_
    refine LL.val (R.loadZ rfl rfl r10 rfl rfl (by first | assumption | exact List.length_replicate | exact plL_len _ | exact plOf_len _ | simp)) rfl rfl rfl ?_
    refine LL.storeAZ rfl rfl rfl rfl (by first | assumption | exact List.length_replicate | exact plL_len _ | exact plOf_len _ | simp) r4 (by first | (rw [List.length_map]; exact (by first | assumption | exact List.length_replicate | exact plL_len _ | exact plOf_len _ | simp)) | simp) rfl rfl ?_
    intro W13 r14 b12 z15
    have hlb12 := r4.lt
    replace r14 : RowL W13 _ 25 [(fun z => Value.int IntKind.i64 z) 0, (fun z => Value.int IntKind.i64 z) 0, (fun z => Value.int IntKind.i64 z) 0, (fun z => Value.int IntKind.i64 z) 0, (fun z => Value.int IntKind.i64 z) 0, (fun z => Value.int IntKind.i64 z) 0, (fun z => Value.int IntKind.i64 z) 0, (fun z => Value.int IntKind.i64 z) 0, (fun z => Value.int IntKind.i64 z) 0, (fun z => Value.int IntKind.i64 z) 0, (fun z => Value.int IntKind.i64 z) 0, (fun z => Value.int IntKind.i64 z) 0, (fun z => Value.int IntKind.i64 z) 0, (fun z => Value.int IntKind.i64 z) 0, (fun z => Value.int IntKind.i64 z) 0, (fun z => Value.int IntKind.i64 z) 0, (fun z => Value.int IntKind.i64 z) 0, (fun z => Value.int IntKind.i64 z) 0, (fun z => Value.int IntKind.i64 z) 0, (fun z => Value.int IntKind.i64 z) 0, (fun z => Value.int IntKind.i64 z) 0, (fun z => Value.int IntKind.i64 z) 0, (fun z => Value.int IntKind.i64 z) 0, (fun z => Value.int IntKind.i64 z) 0, (fun z => Value.int IntKind.i64 z) 0, (fun z => Value.int IntKind.i64 z) 0, (fun z => Value.int IntKind.i64 z) 0, (fun z => Value.int IntKind.i64 z) 0, (fun z => Value.int IntKind.i64 z) 0, (fun z => Value.int IntKind.i64 z) 0, (fun z => Value.int IntKind.i64 z) 0, (fun z => Value.int IntKind.i64 z) 0, (fun z => Value.int IntKind.i64 z) 0, (fun z => Value.int IntKind.i64 z) 0, (fun z => Value.int IntKind.i64 z) 0, (fun z => Value.int IntKind.i64 z) 0, (fun z => Value.int IntKind.i64 z) 0, (fun z => Value.int IntKind.i64 z) 0, (fun z => Value.int IntKind.i64 z) 0, (fun z => Value.int IntKind.i64 z) 0, (fun z => Value.int IntKind.i64 z) 0, (fun z => Value.int IntKind.i64 z) 0, (fun z => Value.int IntKind.i64 z) 0, (fun z => Value.int IntKind.i64 z) 0, (fun z => Value.int IntKind.i64 z) 0, (fun z => Value.int IntKind.i64 z) 0, (fun z => Value.int IntKind.i64 z) 0, (fun z => Value.int IntKind.i64 z) 0, (fun z => Value.int IntKind.i64 z) 0, (fun z => Value.int IntKind.i64 z) 0, (fun z => Value.int IntKind.i64 z) 0, (fun z => Value.int IntKind.i64 z) 0, (fun z => Value.int IntKind.i64 z) 0, (fun z => Value.int IntKind.i64 z) 0, (fun z => Value.int IntKind.i64 z) 0, (fun z => Value.int IntKind.i64 z) 0, (fun z => Value.int IntKind.i64 z) 0, (fun z => Value.int IntKind.i64 z) 0, (fun z => Value.int IntKind.i64 z) 0, (fun z => Value.int IntKind.i64 z) 0, (fun z => Value.int IntKind.i64 z) 0, (fun z => Value.int IntKind.i64 z) 0, (fun z => Value.int IntKind.i64 z) 0, (fun z => Value.int IntKind.i64 z) 0, (fun z => Value.int IntKind.i64 z) 0, (fun z => Value.int IntKind.i64 z) 0, (fun z => Value.int IntKind.i64 z) 0, (fun z => Value.int IntKind.i64 z) 0, (fun z => Value.int IntKind.i64 z) 0, (fun z => Value.int IntKind.i64 z) 0, (fun z => Value.int IntKind.i64 z) 0, (fun z => Value.int IntKind.i64 z) 0, (fun z => Value.int IntKind.i64 z) 0, (fun z => Value.int IntKind.i64 z) 0, (fun z => Value.int IntKind.i64 z) 0, (fun z => Value.int IntKind.i64 z) 0, (fun z => Value.int IntKind.i64 z) 0, (fun z => Value.int IntKind.i64 z) 0, (fun z => Value.int IntKind.i64 z) 0, (fun z => Value.int IntKind.i64 z) 0, (fun z => Value.int IntKind.i64 z) 0, (fun z => Value.int IntKind.i64 z) 0, (fun z => Value.int IntKind.i64 z) 0, (fun z => Value.int IntKind.i64 z) 0, (fun z => Value.int IntKind.i64 z) 0, (fun z => Value.int IntKind.i64 z) 0, (fun z => Value.int IntKind.i64 z) 0, (fun z => Value.int IntKind.i64 z) 0, (fun z => Value.int IntKind.i64 z) 0, (fun z => Value.int IntKind.i64 z) 0, (fun z => Value.int IntKind.i64 z) 0, (fun z => Value.int IntKind.i64 z) 0, (fun z => Value.int IntKind.i64 z) 0, (fun z => Value.int IntKind.i64 z) 0, (fun z => Value.int IntKind.i64 z) 0, (fun z => Value.int IntKind.i64 z) 0, (fun z => Value.int IntKind.i64 z) 0, (fun z => Value.int IntKind.i64 z) 0, (fun z => Value.int IntKind.i64 z) 0, (fun z => Value.int IntKind.i64 z) 0, (fun z => Value.int IntKind.i64 z) 0, (fun z => Value.int IntKind.i64 z) 0, (fun z => Value.int IntKind.i64 z) 0, (fun z => Value.int IntKind.i64 z) 0, (fun z => Value.int IntKind.i64 z) 0, (fun z => Value.int IntKind.i64 z) 0, (fun z => Value.int IntKind.i64 z) 0, (fun z => Value.int IntKind.i64 z) 0, (fun z => Value.int IntKind.i64 z) 0, (fun z => Value.int IntKind.i64 z) 0, (fun z => Value.int IntKind.i64 z) 0, (fun z => Value.int IntKind.i64 z) 0, (fun z => Value.int IntKind.i64 z) 0, (fun z => Value.int IntKind.i64 z) 0, (fun z => Value.int IntKind.i64 z) 0, (fun z => Value.int IntKind.i64 z) 0, (fun z => Value.int IntKind.i64 z) 0, (fun z => Value.int IntKind.i64 z) 0, (fun z => Value.int IntKind.i64 z) 0, (fun z => Value.int IntKind.i64 z) 0, (fun z => Value.int IntKind.i64 z) 0, (fun z => Value.int IntKind.i64 z) 0, (fun z => Value.int IntKind.i64 z) 0, (fun z => Value.int IntKind.i64 z) 0, (fun z => Value.int IntKind.i64 z) 0, (fun z => Value.int IntKind.i64 z) 0, (fun z => Value.int IntKind.i64 z) 0, (fun z => Value.int IntKind.i64 z) 0] := r14
    clear r4
    replace r10 := r10.gr b12 (by have := r10.lt; omega)
    replace b1 := b1.grown b12 b1.size (by rintro k ⟨⟩; omega)
    replace q := q.grown b12 q.size (by rintro k ⟨⟩; omega)
    have r4 := r14
    clear r14
    refine LL.val (R.assign rfl rfl) rfl rfl rfl ?_
    refine LL.nilS ?_
    refine CC.ret ?_
    refine EE.thenR ?_
    refine EE.ret2 rfl ⟨_, rfl, lvNc (RowL.cells0 (by assumption)) (by rfl) (by rfl)⟩ rfl ?_
    exact ⟨⟨zeroP, false, rfl, by simp [hno], fun h => absurd h hno, by simp⟩, q⟩
  refine X.fn Tryd.func10 rfl (n := 75) rfl rfl ?_
  refine CC.seq ?_
  refine CC.region ?_
  refine LL.alloc (intsZ .i64 (List.replicate 128 0)) rfl rfl rfl rfl rfl ?_
  intro Wa2 ga3 ega3 ra4 za5 ba1
  replace q := q.trans (ba1.mono q.size)
  refine LL.val (R.assign rfl rfl) rfl rfl rfl ?_
  refine LL.nilS ?_
  refine CC.seq ?_
  refine CC.region ?_
  have la6 := ra4.lt
  refine LL.alloc (intsZ .i64 (List.replicate 128 0)) rfl rfl rfl rfl rfl ?_
  intro Wa8 ga9 ega9 ra10 za11 ba7
  replace ra4 := ra4.up ba7
  replace ba1 := ba1.trans (ba7.mono ba1.size)
  replace q := q.trans (ba7.mono q.size)
  refine LL.nilS ?_
  refine CC.seq ?_
  refine CC.seq ?_
  refine CC.region ?_
  refine LL.val (R.move rfl rfl) rfl rfl rfl ?_
  refine LL.val (R.len rfl rfl rfl rfl) rfl rfl rfl ?_
  refine LL.val (R.gtF rfl rfl rfl (by omega)) rfl rfl rfl ?_
  refine LL.nilS ?_
  refine CC.no rfl ?_
  refine CC.skip ?_
  refine EE.thenN ?_
  refine CC.seq ?_
  refine CC.seq ?_
  refine CC.region ?_
  refine LL.val (R.assign rfl rfl) rfl rfl rfl ?_
  refine LL.nilS ?_
  refine CC.block ?_
  have yw := q.size
  have l3 := ra4.lt
  have hg39 : ga3 ≠ ga9 := by omega
  have hw9 : w.heap.size ≤ ga9 := by omega
  have rm : RowL Wa8 ga9 25 (intsZ .i64 (plOf (blS (l.take 0)))) := ra10
  refine CC.loop (α := Nat) (fun i => [(0, .slice a N cap), (2, .pointer (some ⟨ga3, 0, none⟩)), (4, .pointer (some ⟨ga9, 0, none⟩)), (5, .int .i64 (i : Int))]) (fun i W => i ≤ N ∧ Below w.heap.size w W ∧ ga9 < W.heap.size ∧ RowL W ga3 25 (intsZ .i64 zeroP) ∧ RowL W ga9 25 (intsZ .i64 (plOf (blS (l.take i)))) ∧ (∀ x ∈ l.take i, mayE x) ∧ dsB (blS (l.take i))) (fun i => N - i) 0 ⟨rfl, rfl, rfl, rfl, trivial⟩ ⟨by omega, q, rm.lt, ra4, rm, by simp, by simp [blS]⟩ ?_
  clear q ra4 ra10 rm
  rintro i W ⟨hi, q, l9, r4, r10, hmay, hds⟩
  show CC none Tryd.prog _ 75 [] (sl [(0, .slice a N cap), (2, .pointer (some ⟨ga3, 0, none⟩)), (4, .pointer (some ⟨ga9, 0, none⟩)), (5, .int .i64 (i : Int))]) _ W
  have hzl : zeroP.length = 128 := List.length_replicate
  by_cases hlt : i < N
  case neg =>
    obtain rfl : i = N := by omega
    rw [show l.take i = l from List.take_of_length_le (by omega)] at r10 hmay hds
    have hsm := pl_small hds (blS_in hmay)
    have hpl := plL_len l
    have hbk := ds_vL hmay hds (by omega)
    have hvW := hvF W q
    have hgl : (gat (nz (plL l))).length ≤ 1048576 := by have := gat_len (nz (plL l)); have := nzF_len (plL l) 128; unfold nz at *; omega
    have hll : l.length ≤ 1048576 := by omega
    replace r10 : RowL W ga9 25 (intsZ .i64 (plL l)) := r10
    replace hsm : smP (plL l) := hsm
    by_cases he : gat (nz (plL l)) = l
    · have hyes := hbk.1 he
      refine CC.seq ?_
      refine CC.seq ?_
      refine CC.region ?_
      refine LL.val (R.move rfl rfl) rfl rfl rfl ?_
      refine LL.val (R.move rfl rfl) rfl rfl rfl ?_
      refine LL.val (R.len rfl rfl rfl rfl) rfl rfl rfl ?_
      refine LL.val (R.ltF rfl rfl rfl (by omega)) rfl rfl rfl ?_
      refine LL.nilS ?_
      refine CC.no rfl ?_
      refine CC.exit ?_
      refine EE.thenX ?_
      refine EE.thenX ?_
      refine EE.inX ?_
      refine EE.thenN ?_
      refine CC.seq ?_
      refine CC.join (fun l_ Wb13 => l_ = [(0, Value.slice a i cap), (2, Value.pointer (some { block := ga3, off := 0 })), (4, Value.pointer (some { block := ga9, off := 0 })), (5, Value.int IntKind.i64 ↑i), (11, Value.int IntKind.i64 ↑i), (12, Value.slice a i cap), (13, Value.int IntKind.i64 ↑i), (14, Value.bool false), (3, Value.bool true)] ∧ (Below w.heap.size w Wb13) ∧ (RowL Wb13 ga9 25 (intsZ IntKind.i64 (plL l))) ∧ (RowL Wb13 ga3 25 (intsZ IntKind.i64 (plL l))) ∧ (W.heap.size ≤ Wb13.heap.size)) (fun Jb17 => ?_) ?restJb17
      case' restJb17 =>
        clear q
        clear r10
        clear r4
        rintro _ Wb13 ⟨rfl, q, r10, r4, zb16⟩
      refine EE.thenN ?_
      refine CC.ret ?_
      refine EE.ret2 rfl ⟨_, rfl, lvZ (by assumption) rfl rfl (by first | assumption | exact List.length_replicate | exact plL_len _ | exact plOf_len _ | simp)⟩ rfl ?_
      exact ⟨⟨plL l, true, rfl, by simp [hyes], fun _ => rfl, hpl⟩, q⟩
      refine CC.freeZ (fun W_ j => j < W_.heap.size ∧ (j ≠ ga3)) (by kernel_rfl) (by kernel_rfl) (fun Wb19 bb18 zb20 => ?_)
      replace q := q.trans (bb18.mono q.size)
      replace r4 := r4.up bb18
      replace hvW := hvW.up bb18
      replace r10 := r10.up bb18
      have hok : Kept (fun j => j < Wb19.heap.size ∧ (j ≠ ga3)) Wb19 Wb19 := Kept.refl _ _
      have fzr10 := fzRow (K := fun j => j < Wb19.heap.size ∧ (j ≠ ga3)) r10 ⟨r10.lt, (by first | trivial | omega)⟩
      refine AA.pure 3 rfl hok (by kernel_rfl) (fun w' b' => R.move rfl rfl) rfl rfl ?_
      refine AA.two 0 1 (by kernel_rfl) ?_ ?_
      refine SR.val rfl (R.loadZ rfl rfl r10 rfl rfl (by first | assumption | exact List.length_replicate | exact plL_len _ | exact plOf_len _ | simp)) rfl rfl hok ?_
      refine AA.one 1 (by kernel_rfl) ?_
      refine SR.val rfl (R.loadZ rfl rfl r10 rfl rfl (by first | assumption | exact List.length_replicate | exact plL_len _ | exact plOf_len _ | simp)) rfl rfl hok ?_
      refine AA.one 2 (by kernel_rfl) ?_
      refine SR.call rfl (R.call rfl rfl rfl) rfl rfl (rlist_r _ _ (by first | assumption | omega)) ?_
      rintro e Wb22 ⟨vb24, rfl, hb23, bb21⟩
      have zbb21 := bb21.size
      replace bb18 := bb18.trans (bb21.mono bb18.size)
      replace q := q.trans (bb21.mono q.size)
      replace r4 := r4.up bb21
      replace hvW := hvW.up bb21
      replace r10 := r10.up bb21
      replace hok := hok.trans (bkept bb21 (fun j h => by have := h.1; have := hok.size; omega))
      have yb25 := hok.size
      refine ⟨_, rfl, hok, ?_⟩
      refine AA.one 4 (by kernel_rfl) ?_
      refine ZR.callBT rfl (R.call rfl rfl rfl) rfl rfl (slist_any _ _ _ _ _ (by first | assumption | omega) (by first | assumption | omega) (by first | assumption | omega) (by first | assumption | omega)) (by first | assumption | omega) (fun Wb27 bb26 => ?_)
      have zbb26 := bb26.size
      replace hb23 := hb23.up bb26
      replace bb21 := bb21.trans (bb26.mono bb21.size)
      replace bb18 := bb18.trans (bb26.mono bb18.size)
      replace q := q.trans (bb26.mono q.size)
      replace r4 := r4.up bb26
      replace hvW := hvW.up bb26
      replace r10 := r10.up bb26
      replace hok := hok.trans (bkept bb26 (fun j h => by have := h.1; have := hok.size; omega))
      have yb28 := hok.size
      refine ⟨hok, ?_⟩
      refine AA.one 5 (by kernel_rfl) ?_
      refine ZR.storeAZ rfl rfl rfl rfl rfl (by first | assumption | exact List.length_replicate | exact plL_len _ | exact plOf_len _ | simp) r4 (by first | (rw [List.length_map]; exact (by first | assumption | exact List.length_replicate | exact plL_len _ | exact plOf_len _ | simp)) | simp) rfl rfl ?_
      intro Wb30 rb31 bb29 zb32
      have hlbb29 := r4.lt
      clear r4
      replace q := q.grown bb29 q.size (by rintro k ⟨⟩; omega)
      replace r10 := r10.gr bb29 (by have := r10.lt; omega)
      replace hok := hok.trans (grown_kept bb29 (fun j h => by have := h.1; have := hok.size; omega) (fun j h e => by cases e; have h2 := h.1; have h3 := h.2; omega))
      have r4 := rb31
      clear rb31
      refine ⟨hok, ?_⟩
      refine AA.pure 6 rfl hok (by kernel_rfl) (fun w' b' => R.assign rfl rfl) rfl rfl ?_
      refine AA.done rfl ?_
      clear fzr10 hok
      exact EE.weak (Jb17 _ _ ⟨rfl, (by first | assumption | omega), (by first | assumption | omega), (by first | assumption | omega), (by first | assumption | omega)⟩) ⟨rfl, rfl, rfl, rfl, rfl, rfl, rfl, rfl, rfl, trivial⟩
      refine SR.val rfl (R.loadZ rfl rfl r10 rfl rfl (by first | assumption | exact List.length_replicate | exact plL_len _ | exact plOf_len _ | simp)) rfl rfl hok ?_
      refine AA.two 0 2 (by kernel_rfl) ?_ ?_
      refine SR.val rfl (R.loadZ rfl rfl r10 rfl rfl (by first | assumption | exact List.length_replicate | exact plL_len _ | exact plOf_len _ | simp)) rfl rfl hok ?_
      refine AA.one 2 (by kernel_rfl) ?_
      refine SR.call rfl (R.call rfl rfl rfl) rfl rfl (rlist_r _ _ (by first | assumption | omega)) ?_
      rintro e Wb34 ⟨vb36, rfl, hb35, bb33⟩
      have zbb33 := bb33.size
      replace bb18 := bb18.trans (bb33.mono bb18.size)
      replace q := q.trans (bb33.mono q.size)
      replace r4 := r4.up bb33
      replace hvW := hvW.up bb33
      replace r10 := r10.up bb33
      replace hok := hok.trans (bkept bb33 (fun j h => by have := h.1; have := hok.size; omega))
      have yb37 := hok.size
      refine ⟨_, rfl, hok, ?_⟩
      refine AA.one 4 (by kernel_rfl) ?_
      refine ZR.callBT rfl (R.call rfl rfl rfl) rfl rfl (slist_any _ _ _ _ _ (by first | assumption | omega) (by first | assumption | omega) (by first | assumption | omega) (by first | assumption | omega)) (by first | assumption | omega) (fun Wb39 bb38 => ?_)
      have zbb38 := bb38.size
      replace hb35 := hb35.up bb38
      replace bb33 := bb33.trans (bb38.mono bb33.size)
      replace bb18 := bb18.trans (bb38.mono bb18.size)
      replace q := q.trans (bb38.mono q.size)
      replace r4 := r4.up bb38
      replace hvW := hvW.up bb38
      replace r10 := r10.up bb38
      replace hok := hok.trans (bkept bb38 (fun j h => by have := h.1; have := hok.size; omega))
      have yb40 := hok.size
      refine ⟨hok, ?_⟩
      refine AA.one 5 (by kernel_rfl) ?_
      refine ZR.storeAZ rfl rfl rfl rfl rfl (by first | assumption | exact List.length_replicate | exact plL_len _ | exact plOf_len _ | simp) r4 (by first | (rw [List.length_map]; exact (by first | assumption | exact List.length_replicate | exact plL_len _ | exact plOf_len _ | simp)) | simp) rfl rfl ?_
      intro Wb42 rb43 bb41 zb44
      have hlbb41 := r4.lt
      clear r4
      replace q := q.grown bb41 q.size (by rintro k ⟨⟩; omega)
      replace r10 := r10.gr bb41 (by have := r10.lt; omega)
      replace hok := hok.trans (grown_kept bb41 (fun j h => by have := h.1; have := hok.size; omega) (fun j h e => by cases e; have h2 := h.1; have h3 := h.2; omega))
      have r4 := rb43
      clear rb43
      refine ⟨hok, ?_⟩
      refine AA.pure 6 rfl hok (by kernel_rfl) (fun w' b' => R.assign rfl rfl) rfl rfl ?_
      refine AA.done rfl ?_
      clear fzr10 hok
      exact EE.weak (Jb17 _ _ ⟨rfl, (by first | assumption | omega), (by first | assumption | omega), (by first | assumption | omega), (by first | assumption | omega)⟩) ⟨rfl, rfl, rfl, rfl, rfl, rfl, rfl, rfl, rfl, trivial⟩
      refine SR.call rfl (R.call rfl rfl rfl) rfl rfl (rlist_r _ _ (by first | assumption | omega)) ?_
      rintro e Wb46 ⟨vb48, rfl, hb47, bb45⟩
      have zbb45 := bb45.size
      replace bb18 := bb18.trans (bb45.mono bb18.size)
      replace q := q.trans (bb45.mono q.size)
      replace r4 := r4.up bb45
      replace hvW := hvW.up bb45
      replace r10 := r10.up bb45
      replace hok := hok.trans (bkept bb45 (fun j h => by have := h.1; have := hok.size; omega))
      have yb49 := hok.size
      refine ⟨_, rfl, hok, ?_⟩
      refine AA.two 0 4 (by kernel_rfl) ?_ ?_
      refine SR.val rfl (R.loadZ rfl rfl r10 rfl rfl (by first | assumption | exact List.length_replicate | exact plL_len _ | exact plOf_len _ | simp)) rfl rfl hok ?_
      refine AA.one 4 (by kernel_rfl) ?_
      refine ZR.callBT rfl (R.call rfl rfl rfl) rfl rfl (slist_any _ _ _ _ _ (by first | assumption | omega) (by first | assumption | omega) (by first | assumption | omega) (by first | assumption | omega)) (by first | assumption | omega) (fun Wb51 bb50 => ?_)
      have zbb50 := bb50.size
      replace hb47 := hb47.up bb50
      replace bb45 := bb45.trans (bb50.mono bb45.size)
      replace bb18 := bb18.trans (bb50.mono bb18.size)
      replace q := q.trans (bb50.mono q.size)
      replace r4 := r4.up bb50
      replace hvW := hvW.up bb50
      replace r10 := r10.up bb50
      replace hok := hok.trans (bkept bb50 (fun j h => by have := h.1; have := hok.size; omega))
      have yb52 := hok.size
      refine ⟨hok, ?_⟩
      refine AA.one 5 (by kernel_rfl) ?_
      refine ZR.storeAZ rfl rfl rfl rfl rfl (by first | assumption | exact List.length_replicate | exact plL_len _ | exact plOf_len _ | simp) r4 (by first | (rw [List.length_map]; exact (by first | assumption | exact List.length_replicate | exact plL_len _ | exact plOf_len _ | simp)) | simp) rfl rfl ?_
      intro Wb54 rb55 bb53 zb56
      have hlbb53 := r4.lt
      clear r4
      replace q := q.grown bb53 q.size (by rintro k ⟨⟩; omega)
      replace r10 := r10.gr bb53 (by have := r10.lt; omega)
      replace hok := hok.trans (grown_kept bb53 (fun j h => by have := h.1; have := hok.size; omega) (fun j h e => by cases e; have h2 := h.1; have h3 := h.2; omega))
      have r4 := rb55
      clear rb55
      refine ⟨hok, ?_⟩
      refine AA.pure 6 rfl hok (by kernel_rfl) (fun w' b' => R.assign rfl rfl) rfl rfl ?_
      refine AA.done rfl ?_
      clear fzr10 hok
      exact EE.weak (Jb17 _ _ ⟨rfl, (by first | assumption | omega), (by first | assumption | omega), (by first | assumption | omega), (by first | assumption | omega)⟩) ⟨rfl, rfl, rfl, rfl, rfl, rfl, rfl, rfl, rfl, trivial⟩
      refine ZR.callBT rfl (R.call rfl rfl rfl) rfl rfl (slist_any _ _ _ _ _ (by first | assumption | omega) (by first | assumption | omega) (by first | assumption | omega) (by first | assumption | omega)) (by first | assumption | omega) (fun Wb58 bb57 => ?_)
      have zbb57 := bb57.size
      replace hb47 := hb47.up bb57
      replace bb45 := bb45.trans (bb57.mono bb45.size)
      replace bb18 := bb18.trans (bb57.mono bb18.size)
      replace q := q.trans (bb57.mono q.size)
      replace r4 := r4.up bb57
      replace hvW := hvW.up bb57
      replace r10 := r10.up bb57
      replace hok := hok.trans (bkept bb57 (fun j h => by have := h.1; have := hok.size; omega))
      have yb59 := hok.size
      refine ⟨hok, ?_⟩
      refine AA.one 0 (by kernel_rfl) ?_
      refine SR.val rfl (R.loadZ rfl rfl r10 rfl rfl (by first | assumption | exact List.length_replicate | exact plL_len _ | exact plOf_len _ | simp)) rfl rfl hok ?_
      refine AA.one 5 (by kernel_rfl) ?_
      refine ZR.storeAZ rfl rfl rfl rfl rfl (by first | assumption | exact List.length_replicate | exact plL_len _ | exact plOf_len _ | simp) r4 (by first | (rw [List.length_map]; exact (by first | assumption | exact List.length_replicate | exact plL_len _ | exact plOf_len _ | simp)) | simp) rfl rfl ?_
      intro Wb61 rb62 bb60 zb63
      have hlbb60 := r4.lt
      clear r4
      replace q := q.grown bb60 q.size (by rintro k ⟨⟩; omega)
      replace r10 := r10.gr bb60 (by have := r10.lt; omega)
      replace hok := hok.trans (grown_kept bb60 (fun j h => by have := h.1; have := hok.size; omega) (fun j h e => by cases e; have h2 := h.1; have h3 := h.2; omega))
      have r4 := rb62
      clear rb62
      refine ⟨hok, ?_⟩
      refine AA.pure 6 rfl hok (by kernel_rfl) (fun w' b' => R.assign rfl rfl) rfl rfl ?_
      refine AA.done rfl ?_
      clear fzr10 hok
      exact EE.weak (Jb17 _ _ ⟨rfl, (by first | assumption | omega), (by first | assumption | omega), (by first | assumption | omega), (by first | assumption | omega)⟩) ⟨rfl, rfl, rfl, rfl, rfl, rfl, rfl, rfl, rfl, trivial⟩
    · have hno : ¬vL l := fun h => he (hbk.2 h)
      refine CC.seq ?_
      refine CC.seq ?_
      refine CC.region ?_
      refine LL.val (R.move rfl rfl) rfl rfl rfl ?_
      refine LL.val (R.move rfl rfl) rfl rfl rfl ?_
      refine LL.val (R.len rfl rfl rfl rfl) rfl rfl rfl ?_
      refine LL.val (R.ltF rfl rfl rfl (by omega)) rfl rfl rfl ?_
      refine LL.nilS ?_
      refine CC.no rfl ?_
      refine CC.exit ?_
      refine EE.thenX ?_
      refine EE.thenX ?_
      refine EE.inX ?_
      refine EE.thenN ?_
      refine CC.seq ?_
      refine CC.join (fun l_ Wc13 => l_ = [(0, Value.slice a i cap), (2, Value.pointer (some { block := ga3, off := 0 })), (4, Value.pointer (some { block := ga9, off := 0 })), (5, Value.int IntKind.i64 ↑i), (11, Value.int IntKind.i64 ↑i), (12, Value.slice a i cap), (13, Value.int IntKind.i64 ↑i), (14, Value.bool false), (3, Value.bool false)] ∧ (Below w.heap.size w Wc13) ∧ (RowL Wc13 ga9 25 (intsZ IntKind.i64 (plL l))) ∧ (RowL Wc13 ga3 25 (intsZ IntKind.i64 (plL l))) ∧ (W.heap.size ≤ Wc13.heap.size)) (fun Jc17 => ?_) ?restJc17
      case' restJc17 =>
        clear q
        clear r10
        clear r4
        rintro _ Wc13 ⟨rfl, q, r10, r4, zc16⟩
      refine EE.thenN ?_
      refine CC.ret ?_
      refine EE.ret2 rfl ⟨_, rfl, lvZ (by assumption) rfl rfl (by first | assumption | exact List.length_replicate | exact plL_len _ | exact plOf_len _ | simp)⟩ rfl ?_
      exact ⟨⟨plL l, false, rfl, by simp [hno], fun _ => rfl, hpl⟩, q⟩
      refine CC.freeZ (fun W_ j => j < W_.heap.size ∧ (j ≠ ga3)) (by kernel_rfl) (by kernel_rfl) (fun Wc19 bc18 zc20 => ?_)
      replace q := q.trans (bc18.mono q.size)
      replace r4 := r4.up bc18
      replace hvW := hvW.up bc18
      replace r10 := r10.up bc18
      have hok : Kept (fun j => j < Wc19.heap.size ∧ (j ≠ ga3)) Wc19 Wc19 := Kept.refl _ _
      have fzr10 := fzRow (K := fun j => j < Wc19.heap.size ∧ (j ≠ ga3)) r10 ⟨r10.lt, (by first | trivial | omega)⟩
      refine AA.pure 3 rfl hok (by kernel_rfl) (fun w' b' => R.move rfl rfl) rfl rfl ?_
      refine AA.two 0 1 (by kernel_rfl) ?_ ?_
      refine SR.val rfl (R.loadZ rfl rfl r10 rfl rfl (by first | assumption | exact List.length_replicate | exact plL_len _ | exact plOf_len _ | simp)) rfl rfl hok ?_
      refine AA.one 1 (by kernel_rfl) ?_
      refine SR.val rfl (R.loadZ rfl rfl r10 rfl rfl (by first | assumption | exact List.length_replicate | exact plL_len _ | exact plOf_len _ | simp)) rfl rfl hok ?_
      refine AA.one 2 (by kernel_rfl) ?_
      refine SR.call rfl (R.call rfl rfl rfl) rfl rfl (rlist_r _ _ (by first | assumption | omega)) ?_
      rintro e Wc22 ⟨vc24, rfl, hc23, bc21⟩
      have zbc21 := bc21.size
      replace bc18 := bc18.trans (bc21.mono bc18.size)
      replace q := q.trans (bc21.mono q.size)
      replace r4 := r4.up bc21
      replace hvW := hvW.up bc21
      replace r10 := r10.up bc21
      replace hok := hok.trans (bkept bc21 (fun j h => by have := h.1; have := hok.size; omega))
      have yc25 := hok.size
      refine ⟨_, rfl, hok, ?_⟩
      refine AA.one 4 (by kernel_rfl) ?_
      refine ZR.callBF rfl (R.call rfl rfl rfl) rfl rfl (slist_any _ _ _ _ _ (by first | assumption | omega) (by first | assumption | omega) (by first | assumption | omega) (by first | assumption | omega)) (by first | assumption | omega) (fun Wc27 bc26 => ?_)
      have zbc26 := bc26.size
      replace hc23 := hc23.up bc26
      replace bc21 := bc21.trans (bc26.mono bc21.size)
      replace bc18 := bc18.trans (bc26.mono bc18.size)
      replace q := q.trans (bc26.mono q.size)
      replace r4 := r4.up bc26
      replace hvW := hvW.up bc26
      replace r10 := r10.up bc26
      replace hok := hok.trans (bkept bc26 (fun j h => by have := h.1; have := hok.size; omega))
      have yc28 := hok.size
      refine ⟨hok, ?_⟩
      refine AA.one 5 (by kernel_rfl) ?_
      refine ZR.storeAZ rfl rfl rfl rfl rfl (by first | assumption | exact List.length_replicate | exact plL_len _ | exact plOf_len _ | simp) r4 (by first | (rw [List.length_map]; exact (by first | assumption | exact List.length_replicate | exact plL_len _ | exact plOf_len _ | simp)) | simp) rfl rfl ?_
      intro Wc30 rc31 bc29 zc32
      have hlbc29 := r4.lt
      clear r4
      replace q := q.grown bc29 q.size (by rintro k ⟨⟩; omega)
      replace r10 := r10.gr bc29 (by have := r10.lt; omega)
      replace hok := hok.trans (grown_kept bc29 (fun j h => by have := h.1; have := hok.size; omega) (fun j h e => by cases e; have h2 := h.1; have h3 := h.2; omega))
      have r4 := rc31
      clear rc31
      refine ⟨hok, ?_⟩
      refine AA.pure 6 rfl hok (by kernel_rfl) (fun w' b' => R.assign rfl rfl) rfl rfl ?_
      refine AA.done rfl ?_
      clear fzr10 hok
      exact EE.weak (Jc17 _ _ ⟨rfl, (by first | assumption | omega), (by first | assumption | omega), (by first | assumption | omega), (by first | assumption | omega)⟩) ⟨rfl, rfl, rfl, rfl, rfl, rfl, rfl, rfl, rfl, trivial⟩
      refine SR.val rfl (R.loadZ rfl rfl r10 rfl rfl (by first | assumption | exact List.length_replicate | exact plL_len _ | exact plOf_len _ | simp)) rfl rfl hok ?_
      refine AA.two 0 2 (by kernel_rfl) ?_ ?_
      refine SR.val rfl (R.loadZ rfl rfl r10 rfl rfl (by first | assumption | exact List.length_replicate | exact plL_len _ | exact plOf_len _ | simp)) rfl rfl hok ?_
      refine AA.one 2 (by kernel_rfl) ?_
      refine SR.call rfl (R.call rfl rfl rfl) rfl rfl (rlist_r _ _ (by first | assumption | omega)) ?_
      rintro e Wc34 ⟨vc36, rfl, hc35, bc33⟩
      have zbc33 := bc33.size
      replace bc18 := bc18.trans (bc33.mono bc18.size)
      replace q := q.trans (bc33.mono q.size)
      replace r4 := r4.up bc33
      replace hvW := hvW.up bc33
      replace r10 := r10.up bc33
      replace hok := hok.trans (bkept bc33 (fun j h => by have := h.1; have := hok.size; omega))
      have yc37 := hok.size
      refine ⟨_, rfl, hok, ?_⟩
      refine AA.one 4 (by kernel_rfl) ?_
      refine ZR.callBF rfl (R.call rfl rfl rfl) rfl rfl (slist_any _ _ _ _ _ (by first | assumption | omega) (by first | assumption | omega) (by first | assumption | omega) (by first | assumption | omega)) (by first | assumption | omega) (fun Wc39 bc38 => ?_)
      have zbc38 := bc38.size
      replace hc35 := hc35.up bc38
      replace bc33 := bc33.trans (bc38.mono bc33.size)
      replace bc18 := bc18.trans (bc38.mono bc18.size)
      replace q := q.trans (bc38.mono q.size)
      replace r4 := r4.up bc38
      replace hvW := hvW.up bc38
      replace r10 := r10.up bc38
      replace hok := hok.trans (bkept bc38 (fun j h => by have := h.1; have := hok.size; omega))
      have yc40 := hok.size
      refine ⟨hok, ?_⟩
      refine AA.one 5 (by kernel_rfl) ?_
      refine ZR.storeAZ rfl rfl rfl rfl rfl (by first | assumption | exact List.length_replicate | exact plL_len _ | exact plOf_len _ | simp) r4 (by first | (rw [List.length_map]; exact (by first | assumption | exact List.length_replicate | exact plL_len _ | exact plOf_len _ | simp)) | simp) rfl rfl ?_
      intro Wc42 rc43 bc41 zc44
      have hlbc41 := r4.lt
      clear r4
      replace q := q.grown bc41 q.size (by rintro k ⟨⟩; omega)
      replace r10 := r10.gr bc41 (by have := r10.lt; omega)
      replace hok := hok.trans (grown_kept bc41 (fun j h => by have := h.1; have := hok.size; omega) (fun j h e => by cases e; have h2 := h.1; have h3 := h.2; omega))
      have r4 := rc43
      clear rc43
      refine ⟨hok, ?_⟩
      refine AA.pure 6 rfl hok (by kernel_rfl) (fun w' b' => R.assign rfl rfl) rfl rfl ?_
      refine AA.done rfl ?_
      clear fzr10 hok
      exact EE.weak (Jc17 _ _ ⟨rfl, (by first | assumption | omega), (by first | assumption | omega), (by first | assumption | omega), (by first | assumption | omega)⟩) ⟨rfl, rfl, rfl, rfl, rfl, rfl, rfl, rfl, rfl, trivial⟩
      refine SR.call rfl (R.call rfl rfl rfl) rfl rfl (rlist_r _ _ (by first | assumption | omega)) ?_
      rintro e Wc46 ⟨vc48, rfl, hc47, bc45⟩
      have zbc45 := bc45.size
      replace bc18 := bc18.trans (bc45.mono bc18.size)
      replace q := q.trans (bc45.mono q.size)
      replace r4 := r4.up bc45
      replace hvW := hvW.up bc45
      replace r10 := r10.up bc45
      replace hok := hok.trans (bkept bc45 (fun j h => by have := h.1; have := hok.size; omega))
      have yc49 := hok.size
      refine ⟨_, rfl, hok, ?_⟩
      refine AA.two 0 4 (by kernel_rfl) ?_ ?_
      refine SR.val rfl (R.loadZ rfl rfl r10 rfl rfl (by first | assumption | exact List.length_replicate | exact plL_len _ | exact plOf_len _ | simp)) rfl rfl hok ?_
      refine AA.one 4 (by kernel_rfl) ?_
      refine ZR.callBF rfl (R.call rfl rfl rfl) rfl rfl (slist_any _ _ _ _ _ (by first | assumption | omega) (by first | assumption | omega) (by first | assumption | omega) (by first | assumption | omega)) (by first | assumption | omega) (fun Wc51 bc50 => ?_)
      have zbc50 := bc50.size
      replace hc47 := hc47.up bc50
      replace bc45 := bc45.trans (bc50.mono bc45.size)
      replace bc18 := bc18.trans (bc50.mono bc18.size)
      replace q := q.trans (bc50.mono q.size)
      replace r4 := r4.up bc50
      replace hvW := hvW.up bc50
      replace r10 := r10.up bc50
      replace hok := hok.trans (bkept bc50 (fun j h => by have := h.1; have := hok.size; omega))
      have yc52 := hok.size
      refine ⟨hok, ?_⟩
      refine AA.one 5 (by kernel_rfl) ?_
      refine ZR.storeAZ rfl rfl rfl rfl rfl (by first | assumption | exact List.length_replicate | exact plL_len _ | exact plOf_len _ | simp) r4 (by first | (rw [List.length_map]; exact (by first | assumption | exact List.length_replicate | exact plL_len _ | exact plOf_len _ | simp)) | simp) rfl rfl ?_
      intro Wc54 rc55 bc53 zc56
      have hlbc53 := r4.lt
      clear r4
      replace q := q.grown bc53 q.size (by rintro k ⟨⟩; omega)
      replace r10 := r10.gr bc53 (by have := r10.lt; omega)
      replace hok := hok.trans (grown_kept bc53 (fun j h => by have := h.1; have := hok.size; omega) (fun j h e => by cases e; have h2 := h.1; have h3 := h.2; omega))
      have r4 := rc55
      clear rc55
      refine ⟨hok, ?_⟩
      refine AA.pure 6 rfl hok (by kernel_rfl) (fun w' b' => R.assign rfl rfl) rfl rfl ?_
      refine AA.done rfl ?_
      clear fzr10 hok
      exact EE.weak (Jc17 _ _ ⟨rfl, (by first | assumption | omega), (by first | assumption | omega), (by first | assumption | omega), (by first | assumption | omega)⟩) ⟨rfl, rfl, rfl, rfl, rfl, rfl, rfl, rfl, rfl, trivial⟩
      refine ZR.callBF rfl (R.call rfl rfl rfl) rfl rfl (slist_any _ _ _ _ _ (by first | assumption | omega) (by first | assumption | omega) (by first | assumption | omega) (by first | assumption | omega)) (by first | assumption | omega) (fun Wc58 bc57 => ?_)
      have zbc57 := bc57.size
      replace hc47 := hc47.up bc57
      replace bc45 := bc45.trans (bc57.mono bc45.size)
      replace bc18 := bc18.trans (bc57.mono bc18.size)
      replace q := q.trans (bc57.mono q.size)
      replace r4 := r4.up bc57
      replace hvW := hvW.up bc57
      replace r10 := r10.up bc57
      replace hok := hok.trans (bkept bc57 (fun j h => by have := h.1; have := hok.size; omega))
      have yc59 := hok.size
      refine ⟨hok, ?_⟩
      refine AA.one 0 (by kernel_rfl) ?_
      refine SR.val rfl (R.loadZ rfl rfl r10 rfl rfl (by first | assumption | exact List.length_replicate | exact plL_len _ | exact plOf_len _ | simp)) rfl rfl hok ?_
      refine AA.one 5 (by kernel_rfl) ?_
      refine ZR.storeAZ rfl rfl rfl rfl rfl (by first | assumption | exact List.length_replicate | exact plL_len _ | exact plOf_len _ | simp) r4 (by first | (rw [List.length_map]; exact (by first | assumption | exact List.length_replicate | exact plL_len _ | exact plOf_len _ | simp)) | simp) rfl rfl ?_
      intro Wc61 rc62 bc60 zc63
      have hlbc60 := r4.lt
      clear r4
      replace q := q.grown bc60 q.size (by rintro k ⟨⟩; omega)
      replace r10 := r10.gr bc60 (by have := r10.lt; omega)
      replace hok := hok.trans (grown_kept bc60 (fun j h => by have := h.1; have := hok.size; omega) (fun j h e => by cases e; have h2 := h.1; have h3 := h.2; omega))
      have r4 := rc62
      clear rc62
      refine ⟨hok, ?_⟩
      refine AA.pure 6 rfl hok (by kernel_rfl) (fun w' b' => R.assign rfl rfl) rfl rfl ?_
      refine AA.done rfl ?_
      clear fzr10 hok
      exact EE.weak (Jc17 _ _ ⟨rfl, (by first | assumption | omega), (by first | assumption | omega), (by first | assumption | omega), (by first | assumption | omega)⟩) ⟨rfl, rfl, rfl, rfl, rfl, rfl, rfl, rfl, rfl, trivial⟩
  obtain ⟨x, hx⟩ : ∃ x, l[i]? = some x := ⟨_, List.getElem?_eq_getElem (by omega)⟩
  obtain ⟨bk, off, rfl, hbk, hcs⟩ := (hvF W q).get eEnc hx
  have hcs : Cells W ⟨bk, off + i * 3, none⟩ [.int .i64 x.1, .int .i64 x.2.1, .int .i64 x.2.2] := hcs
  have hpl := plOf_len (blS (l.take i))
  by_cases hm : mayE x
  case neg =>
    have hno : ¬vL l := fun h => hm (h.2.1 x (List.mem_of_getElem? hx))
    refine CC.seq ?_
    refine CC.seq ?_
    refine CC.region ?_
    refine LL.val (R.move rfl rfl) rfl rfl rfl ?_
    refine LL.val (R.move rfl rfl) rfl rfl rfl ?_
    refine LL.val (R.len rfl rfl rfl rfl) rfl rfl rfl ?_
    refine LL.val (R.ltT rfl rfl rfl (by omega)) rfl rfl rfl ?_
    refine LL.nilS ?_
    refine CC.yes rfl ?_
    refine CC.skip ?_
    refine EE.thenN ?_
    refine CC.seq ?_
    refine CC.block ?_
    refine CC.seq ?_
    refine CC.seq ?_
    refine CC.region ?_
    refine LL.val (R.move rfl rfl) rfl rfl rfl ?_
    refine LL.val (R.move rfl rfl) rfl rfl rfl ?_
    refine LL.val (R.index rfl rfl rfl (I.ixS rfl (by omega))) rfl rfl rfl ?_
    refine LL.val (R.load rfl rfl (I.ldNc (by assumption) rfl rfl)) rfl rfl rfl ?_
    refine LL.callBF (R.call rfl rfl rfl) rfl rfl rfl (right_any _ _) (by first | assumption | omega) (fun Wd2 bd1 => ?_)
    have zbd1 := bd1.size
    replace q := q.trans (bd1.mono q.size)
    replace r4 := r4.up bd1
    replace r10 := r10.up bd1
    replace hcs := hcs.up bd1
    refine LL.val (R.not rfl rfl) rfl rfl rfl ?_
    refine LL.nilS ?_
    refine CC.yes rfl ?_
    refine CC.seq ?_
    refine CC.region ?_
    refine LL.val (R.loadZ rfl rfl r10 rfl rfl (by first | assumption | exact List.length_replicate | exact plL_len _ | exact plOf_len _ | simp)) rfl rfl rfl ?_
    refine LL.storeAZ rfl rfl rfl rfl (by first | assumption | exact List.length_replicate | exact plL_len _ | exact plOf_len _ | simp) r4 (by first | (rw [List.length_map]; exact (by first | assumption | exact List.length_replicate | exact plL_len _ | exact plOf_len _ | simp)) | simp) rfl rfl ?_
    intro Wd4 rd5 bd3 zd6
    have hlbd3 := r4.lt
    clear r4
    replace q := q.grown bd3 q.size (by rintro k ⟨⟩; omega)
    replace r10 := r10.gr bd3 (by have := r10.lt; omega)
    have r4 := rd5
    clear rd5
    refine LL.val (R.assign rfl rfl) rfl rfl rfl ?_
    refine LL.nilS ?_
    refine CC.ret ?_
    refine EE.thenR ?_
    refine EE.inR ?_
    refine EE.thenR ?_
    refine EE.thenR ?_
    refine EE.inR ?_
    refine EE.thenR ?_
    refine EE.ret2 rfl ⟨_, rfl, lvZ (by assumption) rfl rfl (by first | assumption | exact List.length_replicate | exact plL_len _ | exact plOf_len _ | simp)⟩ rfl ?_
    exact ⟨⟨_, false, rfl, by simp [hno], fun h => absurd h hno, hpl⟩, q⟩
  obtain ⟨f, d, n, rfl, _⟩ := pkZ_nat hm
  have hmu := hm
  unfold mayE at hmu
  simp only at hmu
  have hmayS : ∀ x ∈ l.take (i + 1), mayE x := fun y hy => by
    rw [List.take_add_one, hx] at hy
    rcases List.mem_append.1 hy with hy | hy
    · exact hmay y hy
    · simp only [Option.toList_some, List.mem_singleton] at hy; rw [hy]; exact hm
  have hinb : ∀ k, inB (blS (l.take i) ++ (blE ((f : Int), (d : Int), (n : Int))).take k) := fun k b hb => by
    refine blS_in hmayS b ?_
    rw [blS_take hx]
    rcases List.mem_append.1 hb with hb | hb
    · exact List.mem_append_left _ hb
    · exact List.mem_append_right _ (List.mem_of_mem_take hb)
  have hbn : (blE ((f : Int), (d : Int), (n : Int))).length = n := by rw [blE_len]; simp
  clear hcs
  refine CC.seq ?_
  refine CC.seq ?_
  refine CC.region ?_
  refine LL.val (R.move rfl rfl) rfl rfl rfl ?_
  refine LL.val (R.move rfl rfl) rfl rfl rfl ?_
  refine LL.val (R.len rfl rfl rfl rfl) rfl rfl rfl ?_
  refine LL.val (R.ltT rfl rfl rfl (by omega)) rfl rfl rfl ?_
  refine LL.nilS ?_
  refine CC.yes rfl ?_
  refine CC.skip ?_
  refine EE.thenN ?_
  refine CC.seq ?_
  refine CC.block ?_
  refine CC.seq ?_
  refine CC.seq ?_
  refine CC.region ?_
  refine LL.val (R.move rfl rfl) rfl rfl rfl ?_
  refine LL.val (R.move rfl rfl) rfl rfl rfl ?_
  refine LL.val (R.index rfl rfl rfl (I.ixS rfl (by omega))) rfl rfl rfl ?_
  refine LL.val (R.load rfl rfl (I.ldNc (by assumption) rfl rfl)) rfl rfl rfl ?_
  refine LL.callBT (R.call rfl rfl rfl) rfl rfl rfl (right_any _ _) (by first | assumption | omega) (fun We2 be1 => ?_)
  have zbe1 := be1.size
  replace q := q.trans (be1.mono q.size)
  replace r4 := r4.up be1
  replace r10 := r10.up be1
  replace hcs := hcs.up be1
  refine LL.val (R.not rfl rfl) rfl rfl rfl ?_
  refine LL.nilS ?_
  refine CC.no rfl ?_
  refine CC.skip ?_
  refine EE.thenN ?_
  refine CC.seq ?_
  refine CC.region ?_
  refine LL.val (R.assign rfl rfl) rfl rfl rfl ?_
  refine LL.nilS ?_
  refine CC.block ?_
  have r10' : RowL We2 ga9 25 (intsZ .i64 (plOf (blS (l.take i) ++ (blE ((f : Int), (d : Int), (n : Int))).take 0))) := by rw [List.take_zero, List.append_nil]; exact r10
  clear r10
  refine CC.loop (α := Nat) (fun k => [(0, .slice (some ⟨bk, off, none⟩) N cap), (2, .pointer (some ⟨ga3, 0, none⟩)), (4, .pointer (some ⟨ga9, 0, none⟩)), (5, .int .i64 (i : Int)), (6, .int .i64 (k : Int))]) (fun k W => k ≤ n ∧ Below w.heap.size w W ∧ ga9 < W.heap.size ∧ RowL W ga3 25 (intsZ .i64 zeroP) ∧ RowL W ga9 25 (intsZ .i64 (plOf (blS (l.take i) ++ (blE ((f : Int), (d : Int), (n : Int))).take k))) ∧ dsB (blS (l.take i) ++ (blE ((f : Int), (d : Int), (n : Int))).take k)) (fun k => n - k) 0 ⟨rfl, rfl, rfl, rfl, rfl, trivial⟩ ⟨by omega, q, r10'.lt, r4, r10', by rw [List.take_zero, List.append_nil]; exact hds⟩ ?_
  clear q r4 r10'
  rintro k W' ⟨hk, q, l9, r4, r10, hds⟩
  have yq := q.size
  show CC none Tryd.prog _ 75 [] (sl [(0, .slice (some ⟨bk, off, none⟩) N cap), (2, .pointer (some ⟨ga3, 0, none⟩)), (4, .pointer (some ⟨ga9, 0, none⟩)), (5, .int .i64 (i : Int)), (6, .int .i64 (k : Int))]) _ W'
  obtain ⟨_, _, e1, _, hcs⟩ := (hvF W' q).get eEnc hx
  cases e1
  have hcs : Cells W' ⟨bk, off + i * 3, none⟩ [.int .i64 (f : Int), .int .i64 (d : Int), .int .i64 (n : Int)] := hcs
  have c1 := hcs.at (j := 0) rfl
  have c2 := hcs.at (j := 1) rfl
  have c3 := hcs.at (j := 2) rfl
  clear hcs
  by_cases hkn : k < n
  case neg =>
    rw [show (blE ((f : Int), (d : Int), (n : Int))).take k = blE ((f : Int), (d : Int), (n : Int)) from List.take_of_length_le (by omega), ← blS_take hx] at r10 hds
    refine CC.seq ?_
    refine CC.seq ?_
    refine CC.region ?_
    refine LL.val (R.move rfl rfl) rfl rfl rfl ?_
    refine LL.val (R.move rfl rfl) rfl rfl rfl ?_
    refine LL.val (R.move rfl rfl) rfl rfl rfl ?_
    refine LL.val (R.index rfl rfl rfl (I.ixS rfl (by omega))) rfl rfl rfl ?_
    refine LL.val (R.field rfl rfl (I.fld rfl)) rfl rfl rfl ?_
    refine LL.val (R.load rfl rfl (I.ld1 rfl (by assumption))) rfl rfl rfl ?_
    refine LL.val (R.ltF rfl rfl rfl (by omega)) rfl rfl rfl ?_
    refine LL.nilS ?_
    refine CC.no rfl ?_
    refine CC.exit ?_
    refine EE.thenX ?_
    refine EE.thenX ?_
    refine EE.inX ?_
    refine EE.inN ?_
    refine EE.thenN ?_
    refine CC.region ?_
    refine LL.val (R.move rfl rfl) rfl rfl rfl ?_
    refine LL.val (R.addNc rfl rfl rfl rfl (by omega)) rfl rfl rfl ?_
    refine LL.val (R.assign rfl rfl) rfl rfl rfl ?_
    refine LL.nil ?_
    exact EE.round (i + 1) ⟨rfl, rfl, rfl, rfl, trivial⟩ ⟨by omega, q, l9, r4, r10, hmayS, hds⟩ (by omega)
  have hin := hinb k
  have hsp := plOf_len (blS (l.take i) ++ (blE ((f : Int), (d : Int), (n : Int))).take k)
  have hset : plOf (blS (l.take i) ++ (blE ((f : Int), (d : Int), (n : Int))).take (k + 1)) = (plOf (blS (l.take i) ++ (blE ((f : Int), (d : Int), (n : Int))).take k)).set (f + k) ((d + k : Nat) : Int) := by
    rw [blE_take (by simp only; omega), ← List.append_assoc]
    unfold plOf
    rw [plF_snoc]
    rfl
  have hno := fun c hc he => no_vL hx (show (k : Int) < (n : Int) by omega) (c := c) hc he
  have hsn := @ds_snoc (blS (l.take i) ++ (blE ((f : Int), (d : Int), (n : Int))).take k) ((f : Int) + (k : Int), (d : Int) + (k : Int)) hds hin (by simp only; omega)
  rw [List.append_assoc, ← show (blE ((f : Int), (d : Int), (n : Int))).take (k + 1) = _ from blE_take (by simp only; omega)] at hsn
  generalize hsg : blS (l.take i) ++ (blE ((f : Int), (d : Int), (n : Int))).take k = s at *
  generalize hsg2 : blS (l.take i) ++ (blE ((f : Int), (d : Int), (n : Int))).take (k + 1) = s2 at *
  obtain ⟨z, hz⟩ : ∃ z, (plOf s)[f + k]? = some z := ⟨_, List.getElem?_eq_getElem (by omega)⟩
  have c4 : W'.cell? ⟨ga9, 0 + (f + k), none⟩ = some (.int .i64 z) := RowL.cell r10 (by rw [show 0 + (f + k) = f + k by omega]; simp [hz])
  by_cases h0 : z = 0
  case neg =>
    have hnv : ¬vL l := hno _ (pl_mem hds hin hz h0) (.inl (by simp only; omega))
    refine CC.seq ?_
    refine CC.seq ?_
    refine CC.region ?_
    refine LL.val (R.move rfl rfl) rfl rfl rfl ?_
    refine LL.val (R.move rfl rfl) rfl rfl rfl ?_
    refine LL.val (R.move rfl rfl) rfl rfl rfl ?_
    refine LL.val (R.index rfl rfl rfl (I.ixS rfl (by omega))) rfl rfl rfl ?_
    refine LL.val (R.field rfl rfl (I.fld rfl)) rfl rfl rfl ?_
    refine LL.val (R.load rfl rfl (I.ld1 rfl (by assumption))) rfl rfl rfl ?_
    refine LL.val (R.ltT rfl rfl rfl (by omega)) rfl rfl rfl ?_
    refine LL.nilS ?_
    refine CC.yes rfl ?_
    refine CC.skip ?_
    refine EE.thenN ?_
    refine CC.seq ?_
    refine CC.block ?_
    refine CC.seq ?_
    refine CC.seq ?_
    refine CC.freeZ (fun W_ j => j < W_.heap.size ∧ (True)) (by kernel_rfl) (by kernel_rfl) (fun Wg2 bg1 zg3 => ?_)
    replace q := q.trans (bg1.mono q.size)
    replace r4 := r4.up bg1
    replace hcs := hcs.up bg1
    replace c1 := cell_up c1 bg1
    replace c2 := cell_up c2 bg1
    replace c3 := cell_up c3 bg1
    replace r10 := r10.up bg1
    replace c4 := cell_up c4 bg1
    have hok : Kept (fun j => j < Wg2.heap.size ∧ (True)) Wg2 Wg2 := Kept.refl _ _
    have fzr4 := fzRow (K := fun j => j < Wg2.heap.size ∧ (True)) r4 ⟨r4.lt, (by first | trivial | omega)⟩
    have fzc1 := fzCell (K := fun j => j < Wg2.heap.size ∧ (True)) c1 ⟨World.block_lt_of_cell? _ _ c1, (by first | trivial | omega)⟩
    have fzc2 := fzCell (K := fun j => j < Wg2.heap.size ∧ (True)) c2 ⟨World.block_lt_of_cell? _ _ c2, (by first | trivial | omega)⟩
    have fzc3 := fzCell (K := fun j => j < Wg2.heap.size ∧ (True)) c3 ⟨World.block_lt_of_cell? _ _ c3, (by first | trivial | omega)⟩
    have fzr10 := fzRow (K := fun j => j < Wg2.heap.size ∧ (True)) r10 ⟨r10.lt, (by first | trivial | omega)⟩
    have fzc4 := fzCell (K := fun j => j < Wg2.heap.size ∧ (True)) c4 ⟨World.block_lt_of_cell? _ _ c4, (by first | trivial | omega)⟩
    refine AA.pure 0 rfl hok (by kernel_rfl) (fun w' b' => R.move rfl rfl) rfl rfl ?_
    refine AA.pure 1 rfl hok (by kernel_rfl) (fun w' b' => R.move rfl rfl) rfl rfl ?_
    refine AA.pure 2 rfl hok (by kernel_rfl) (fun w' b' => R.index rfl rfl rfl (I.ixS rfl (by omega))) rfl rfl ?_
    refine AA.pure 3 rfl hok (by kernel_rfl) (fun w' b' => R.field rfl rfl (I.fld rfl)) rfl rfl ?_
    refine AA.pure 4 rfl hok (by kernel_rfl) (fun w' b' => R.load rfl rfl (I.ld1 rfl (fzc1 w' b'))) rfl rfl ?_
    refine AA.pure 5 rfl hok (by kernel_rfl) (fun w' b' => R.move rfl rfl) rfl rfl ?_
    refine AA.pure 6 rfl hok (by kernel_rfl) (fun w' b' => R.addN rfl rfl rfl (by omega)) rfl rfl ?_
    refine AA.pure 7 rfl hok (by kernel_rfl) (fun w' b' => R.index rfl rfl rfl (I.ixA1 rfl (by omega))) rfl rfl ?_
    refine AA.pure 8 rfl hok (by kernel_rfl) (fun w' b' => R.load rfl rfl (I.ld1 rfl (fzc4 w' b'))) rfl rfl ?_
    refine AA.pure 9 rfl hok (by kernel_rfl) (fun w' b' => R.neT rfl rfl rfl (by omega)) rfl rfl ?_
    refine AA.pure 10 rfl hok (by kernel_rfl) (fun w' b' => R.move rfl rfl) rfl rfl ?_
    refine AA.off 11 rfl hok (by kernel_rfl) rfl rfl ?_
    refine AA.off 12 rfl hok (by kernel_rfl) rfl rfl ?_
    refine AA.off 13 rfl hok (by kernel_rfl) rfl rfl ?_
    refine AA.off 14 rfl hok (by kernel_rfl) rfl rfl ?_
    refine AA.off 15 rfl hok (by kernel_rfl) rfl rfl ?_
    refine AA.off 16 rfl hok (by kernel_rfl) rfl rfl ?_
    refine AA.off 17 rfl hok (by kernel_rfl) rfl rfl ?_
    refine AA.off 18 rfl hok (by kernel_rfl) rfl rfl ?_
    refine AA.off 19 rfl hok (by kernel_rfl) rfl rfl ?_
    refine AA.pure 20 rfl hok (by kernel_rfl) (fun w' b' => R.pick rfl rfl rfl) rfl rfl ?_
    refine AA.done rfl ?_
    clear hok fzr4 fzc1 fzc2 fzc3 fzr10 fzc4
    refine EE.thenN ?_
    refine CC.yes rfl ?_
    refine CC.seq ?_
    refine CC.region ?_
    refine LL.val (R.loadZ rfl rfl r10 rfl rfl (by first | assumption | exact List.length_replicate | exact plL_len _ | exact plOf_len _ | simp)) rfl rfl rfl ?_
    refine LL.storeAZ rfl rfl rfl rfl (by first | assumption | exact List.length_replicate | exact plL_len _ | exact plOf_len _ | simp) r4 (by first | (rw [List.length_map]; exact (by first | assumption | exact List.length_replicate | exact plL_len _ | exact plOf_len _ | simp)) | simp) rfl rfl ?_
    intro Wg5 rg6 bg4 zg7
    have hlbg4 := r4.lt
    clear r4
    replace q := q.grown bg4 q.size (by rintro k ⟨⟩; omega)
    replace r10 := r10.gr bg4 (by have := r10.lt; omega)
    replace c4 := cell_gr c4 bg4 (by omega)
    have r4 := rg6
    clear rg6
    refine LL.val (R.assign rfl rfl) rfl rfl rfl ?_
    refine LL.nilS ?_
    refine CC.ret ?_
    refine EE.thenR ?_
    refine EE.inR ?_
    refine EE.thenR ?_
    refine EE.thenR ?_
    refine EE.inR ?_
    refine EE.inR ?_
    refine EE.thenR ?_
    refine EE.thenR ?_
    refine EE.inR ?_
    refine EE.thenR ?_
    refine EE.ret2 rfl ⟨_, rfl, lvZ (by assumption) rfl rfl (by first | assumption | exact List.length_replicate | exact plL_len _ | exact plOf_len _ | simp)⟩ rfl ?_
    exact ⟨⟨plOf s, false, rfl, by simp [hnv], fun h => absurd h hnv, hsp⟩, q⟩
  subst h0
  by_cases hh : hasP (plOf s) ((d + k : Nat) : Int)
  · obtain ⟨j, hj⟩ := id hh
    have hnv : ¬vL l := hno _ (pl_mem hds hin hj (by omega)) (.inr (by simp only; omega))
    refine CC.seq ?_
    refine CC.seq ?_
    refine CC.region ?_
    refine LL.val (R.move rfl rfl) rfl rfl rfl ?_
    refine LL.val (R.move rfl rfl) rfl rfl rfl ?_
    refine LL.val (R.move rfl rfl) rfl rfl rfl ?_
    refine LL.val (R.index rfl rfl rfl (I.ixS rfl (by omega))) rfl rfl rfl ?_
    refine LL.val (R.field rfl rfl (I.fld rfl)) rfl rfl rfl ?_
    refine LL.val (R.load rfl rfl (I.ld1 rfl (by assumption))) rfl rfl rfl ?_
    refine LL.val (R.ltT rfl rfl rfl (by omega)) rfl rfl rfl ?_
    refine LL.nilS ?_
    refine CC.yes rfl ?_
    refine CC.skip ?_
    refine EE.thenN ?_
    refine CC.seq ?_
    refine CC.block ?_
    refine CC.seq ?_
    refine CC.seq ?_
    refine CC.freeZ (fun W_ j => j < W_.heap.size ∧ (True)) (by kernel_rfl) (by kernel_rfl) (fun Wh2 bh1 zh3 => ?_)
    replace q := q.trans (bh1.mono q.size)
    replace r4 := r4.up bh1
    replace hcs := hcs.up bh1
    replace c1 := cell_up c1 bh1
    replace c2 := cell_up c2 bh1
    replace c3 := cell_up c3 bh1
    replace r10 := r10.up bh1
    replace c4 := cell_up c4 bh1
    have hok : Kept (fun j => j < Wh2.heap.size ∧ (True)) Wh2 Wh2 := Kept.refl _ _
    have fzr4 := fzRow (K := fun j => j < Wh2.heap.size ∧ (True)) r4 ⟨r4.lt, (by first | trivial | omega)⟩
    have fzc1 := fzCell (K := fun j => j < Wh2.heap.size ∧ (True)) c1 ⟨World.block_lt_of_cell? _ _ c1, (by first | trivial | omega)⟩
    have fzc2 := fzCell (K := fun j => j < Wh2.heap.size ∧ (True)) c2 ⟨World.block_lt_of_cell? _ _ c2, (by first | trivial | omega)⟩
    have fzc3 := fzCell (K := fun j => j < Wh2.heap.size ∧ (True)) c3 ⟨World.block_lt_of_cell? _ _ c3, (by first | trivial | omega)⟩
    have fzr10 := fzRow (K := fun j => j < Wh2.heap.size ∧ (True)) r10 ⟨r10.lt, (by first | trivial | omega)⟩
    have fzc4 := fzCell (K := fun j => j < Wh2.heap.size ∧ (True)) c4 ⟨World.block_lt_of_cell? _ _ c4, (by first | trivial | omega)⟩
    refine AA.pure 0 rfl hok (by kernel_rfl) (fun w' b' => R.move rfl rfl) rfl rfl ?_
    refine AA.pure 1 rfl hok (by kernel_rfl) (fun w' b' => R.move rfl rfl) rfl rfl ?_
    refine AA.pure 2 rfl hok (by kernel_rfl) (fun w' b' => R.index rfl rfl rfl (I.ixS rfl (by omega))) rfl rfl ?_
    refine AA.pure 3 rfl hok (by kernel_rfl) (fun w' b' => R.field rfl rfl (I.fld rfl)) rfl rfl ?_
    refine AA.pure 4 rfl hok (by kernel_rfl) (fun w' b' => R.load rfl rfl (I.ld1 rfl (fzc1 w' b'))) rfl rfl ?_
    refine AA.pure 5 rfl hok (by kernel_rfl) (fun w' b' => R.move rfl rfl) rfl rfl ?_
    refine AA.pure 6 rfl hok (by kernel_rfl) (fun w' b' => R.addN rfl rfl rfl (by omega)) rfl rfl ?_
    refine AA.pure 7 rfl hok (by kernel_rfl) (fun w' b' => R.index rfl rfl rfl (I.ixA1 rfl (by omega))) rfl rfl ?_
    refine AA.pure 8 rfl hok (by kernel_rfl) (fun w' b' => R.load rfl rfl (I.ld1 rfl (fzc4 w' b'))) rfl rfl ?_
    refine AA.pure 9 rfl hok (by kernel_rfl) (fun w' b' => R.neF rfl rfl rfl (by omega)) rfl rfl ?_
    refine AA.pure 10 rfl hok (by kernel_rfl) (fun w' b' => R.move rfl rfl) rfl rfl ?_
    refine AA.pure 12 rfl hok (by kernel_rfl) (fun w' b' => R.move rfl rfl) rfl rfl ?_
    refine AA.pure 13 rfl hok (by kernel_rfl) (fun w' b' => R.move rfl rfl) rfl rfl ?_
    refine AA.pure 14 rfl hok (by kernel_rfl) (fun w' b' => R.index rfl rfl rfl (I.ixS rfl (by omega))) rfl rfl ?_
    refine AA.pure 15 rfl hok (by kernel_rfl) (fun w' b' => R.field rfl rfl (I.fld rfl)) rfl rfl ?_
    refine AA.pure 16 rfl hok (by kernel_rfl) (fun w' b' => R.load rfl rfl (I.ld1 rfl (fzc2 w' b'))) rfl rfl ?_
    refine AA.pure 17 rfl hok (by kernel_rfl) (fun w' b' => R.move rfl rfl) rfl rfl ?_
    refine AA.pure 18 rfl hok (by kernel_rfl) (fun w' b' => R.addN rfl rfl rfl (by omega)) rfl rfl ?_
    refine AA.one 11 (by kernel_rfl) ?_
    refine SR.val rfl (R.loadZ rfl rfl r10 rfl rfl (by first | assumption | exact List.length_replicate | exact plL_len _ | exact plOf_len _ | simp)) rfl rfl hok ?_
    refine AA.one 19 (by kernel_rfl) ?_
    refine SR.call rfl (R.call rfl rfl rfl) rfl rfl (has_T _ _ _ (by first | assumption | omega) (by first | assumption | omega)) ?_
    rintro e Wh5 ⟨rfl, bh4⟩
    have zbh4 := bh4.size
    replace bh1 := bh1.trans (bh4.mono bh1.size)
    replace q := q.trans (bh4.mono q.size)
    replace r4 := r4.up bh4
    replace hcs := hcs.up bh4
    replace c1 := cell_up c1 bh4
    replace c2 := cell_up c2 bh4
    replace c3 := cell_up c3 bh4
    replace r10 := r10.up bh4
    replace c4 := cell_up c4 bh4
    replace hok := hok.trans (bkept bh4 (fun j h => by have := h.1; have := hok.size; omega))
    have yh6 := hok.size
    refine ⟨_, rfl, hok, ?_⟩
    refine AA.pure 20 rfl hok (by kernel_rfl) (fun w' b' => R.pick rfl rfl rfl) rfl rfl ?_
    refine AA.done rfl ?_
    clear fzr4 fzc1 fzc2 fzc3 fzr10 fzc4 hok
    refine EE.thenN ?_
    refine CC.yes rfl ?_
    refine CC.seq ?_
    refine CC.region ?_
    refine LL.val (R.loadZ rfl rfl r10 rfl rfl (by first | assumption | exact List.length_replicate | exact plL_len _ | exact plOf_len _ | simp)) rfl rfl rfl ?_
    refine LL.storeAZ rfl rfl rfl rfl (by first | assumption | exact List.length_replicate | exact plL_len _ | exact plOf_len _ | simp) r4 (by first | (rw [List.length_map]; exact (by first | assumption | exact List.length_replicate | exact plL_len _ | exact plOf_len _ | simp)) | simp) rfl rfl ?_
    intro Wh8 rh9 bh7 zh10
    have hlbh7 := r4.lt
    clear r4
    replace q := q.grown bh7 q.size (by rintro k ⟨⟩; omega)
    replace r10 := r10.gr bh7 (by have := r10.lt; omega)
    replace c4 := cell_gr c4 bh7 (by omega)
    have r4 := rh9
    clear rh9
    refine LL.val (R.assign rfl rfl) rfl rfl rfl ?_
    refine LL.nilS ?_
    refine CC.ret ?_
    refine EE.thenR ?_
    refine EE.inR ?_
    refine EE.thenR ?_
    refine EE.thenR ?_
    refine EE.inR ?_
    refine EE.inR ?_
    refine EE.thenR ?_
    refine EE.thenR ?_
    refine EE.inR ?_
    refine EE.thenR ?_
    refine EE.ret2 rfl ⟨_, rfl, lvZ (by assumption) rfl rfl (by first | assumption | exact List.length_replicate | exact plL_len _ | exact plOf_len _ | simp)⟩ rfl ?_
    exact ⟨⟨plOf s, false, rfl, by simp [hnv], fun h => absurd h hnv, hsp⟩, q⟩
  · have hds2 : dsB s2 := hsn (by rw [show ((f : Int) + (k : Int)).toNat = f + k by omega]; exact hz) (by rw [show (d : Int) + (k : Int) = ((d + k : Nat) : Int) by omega]; exact hh)
    refine CC.seq ?_
    refine CC.seq ?_
    refine CC.region ?_
    refine LL.val (R.move rfl rfl) rfl rfl rfl ?_
    refine LL.val (R.move rfl rfl) rfl rfl rfl ?_
    refine LL.val (R.move rfl rfl) rfl rfl rfl ?_
    refine LL.val (R.index rfl rfl rfl (I.ixS rfl (by omega))) rfl rfl rfl ?_
    refine LL.val (R.field rfl rfl (I.fld rfl)) rfl rfl rfl ?_
    refine LL.val (R.load rfl rfl (I.ld1 rfl (by assumption))) rfl rfl rfl ?_
    refine LL.val (R.ltT rfl rfl rfl (by omega)) rfl rfl rfl ?_
    refine LL.nilS ?_
    refine CC.yes rfl ?_
    refine CC.skip ?_
    refine EE.thenN ?_
    refine CC.seq ?_
    refine CC.block ?_
    refine CC.seq ?_
    refine CC.seq ?_
    refine CC.freeZ (fun W_ j => j < W_.heap.size ∧ (True)) (by kernel_rfl) (by kernel_rfl) (fun Wi2 bi1 zi3 => ?_)
    replace q := q.trans (bi1.mono q.size)
    replace r4 := r4.up bi1
    replace hcs := hcs.up bi1
    replace c1 := cell_up c1 bi1
    replace c2 := cell_up c2 bi1
    replace c3 := cell_up c3 bi1
    replace r10 := r10.up bi1
    replace c4 := cell_up c4 bi1
    have hok : Kept (fun j => j < Wi2.heap.size ∧ (True)) Wi2 Wi2 := Kept.refl _ _
    have fzr4 := fzRow (K := fun j => j < Wi2.heap.size ∧ (True)) r4 ⟨r4.lt, (by first | trivial | omega)⟩
    have fzc1 := fzCell (K := fun j => j < Wi2.heap.size ∧ (True)) c1 ⟨World.block_lt_of_cell? _ _ c1, (by first | trivial | omega)⟩
    have fzc2 := fzCell (K := fun j => j < Wi2.heap.size ∧ (True)) c2 ⟨World.block_lt_of_cell? _ _ c2, (by first | trivial | omega)⟩
    have fzc3 := fzCell (K := fun j => j < Wi2.heap.size ∧ (True)) c3 ⟨World.block_lt_of_cell? _ _ c3, (by first | trivial | omega)⟩
    have fzr10 := fzRow (K := fun j => j < Wi2.heap.size ∧ (True)) r10 ⟨r10.lt, (by first | trivial | omega)⟩
    have fzc4 := fzCell (K := fun j => j < Wi2.heap.size ∧ (True)) c4 ⟨World.block_lt_of_cell? _ _ c4, (by first | trivial | omega)⟩
    refine AA.pure 0 rfl hok (by kernel_rfl) (fun w' b' => R.move rfl rfl) rfl rfl ?_
    refine AA.pure 1 rfl hok (by kernel_rfl) (fun w' b' => R.move rfl rfl) rfl rfl ?_
    refine AA.pure 2 rfl hok (by kernel_rfl) (fun w' b' => R.index rfl rfl rfl (I.ixS rfl (by omega))) rfl rfl ?_
    refine AA.pure 3 rfl hok (by kernel_rfl) (fun w' b' => R.field rfl rfl (I.fld rfl)) rfl rfl ?_
    refine AA.pure 4 rfl hok (by kernel_rfl) (fun w' b' => R.load rfl rfl (I.ld1 rfl (fzc1 w' b'))) rfl rfl ?_
    refine AA.pure 5 rfl hok (by kernel_rfl) (fun w' b' => R.move rfl rfl) rfl rfl ?_
    refine AA.pure 6 rfl hok (by kernel_rfl) (fun w' b' => R.addN rfl rfl rfl (by omega)) rfl rfl ?_
    refine AA.pure 7 rfl hok (by kernel_rfl) (fun w' b' => R.index rfl rfl rfl (I.ixA1 rfl (by omega))) rfl rfl ?_
    refine AA.pure 8 rfl hok (by kernel_rfl) (fun w' b' => R.load rfl rfl (I.ld1 rfl (fzc4 w' b'))) rfl rfl ?_
    refine AA.pure 9 rfl hok (by kernel_rfl) (fun w' b' => R.neF rfl rfl rfl (by omega)) rfl rfl ?_
    refine AA.pure 10 rfl hok (by kernel_rfl) (fun w' b' => R.move rfl rfl) rfl rfl ?_
    refine AA.pure 12 rfl hok (by kernel_rfl) (fun w' b' => R.move rfl rfl) rfl rfl ?_
    refine AA.pure 13 rfl hok (by kernel_rfl) (fun w' b' => R.move rfl rfl) rfl rfl ?_
    refine AA.pure 14 rfl hok (by kernel_rfl) (fun w' b' => R.index rfl rfl rfl (I.ixS rfl (by omega))) rfl rfl ?_
    refine AA.pure 15 rfl hok (by kernel_rfl) (fun w' b' => R.field rfl rfl (I.fld rfl)) rfl rfl ?_
    refine AA.pure 16 rfl hok (by kernel_rfl) (fun w' b' => R.load rfl rfl (I.ld1 rfl (fzc2 w' b'))) rfl rfl ?_
    refine AA.pure 17 rfl hok (by kernel_rfl) (fun w' b' => R.move rfl rfl) rfl rfl ?_
    refine AA.pure 18 rfl hok (by kernel_rfl) (fun w' b' => R.addN rfl rfl rfl (by omega)) rfl rfl ?_
    refine AA.one 11 (by kernel_rfl) ?_
    refine SR.val rfl (R.loadZ rfl rfl r10 rfl rfl (by first | assumption | exact List.length_replicate | exact plL_len _ | exact plOf_len _ | simp)) rfl rfl hok ?_
    refine AA.one 19 (by kernel_rfl) ?_
    refine SR.call rfl (R.call rfl rfl rfl) rfl rfl (has_F _ _ _ (by first | assumption | omega) (by first | assumption | omega)) ?_
    rintro e Wi7 ⟨rfl, bi6⟩
    have zbi6 := bi6.size
    replace bi1 := bi1.trans (bi6.mono bi1.size)
    replace q := q.trans (bi6.mono q.size)
    replace r4 := r4.up bi6
    replace hcs := hcs.up bi6
    replace c1 := cell_up c1 bi6
    replace c2 := cell_up c2 bi6
    replace c3 := cell_up c3 bi6
    replace r10 := r10.up bi6
    replace c4 := cell_up c4 bi6
    replace hok := hok.trans (bkept bi6 (fun j h => by have := h.1; have := hok.size; omega))
    have yi8 := hok.size
    refine ⟨_, rfl, hok, ?_⟩
    refine AA.pure 20 rfl hok (by kernel_rfl) (fun w' b' => R.pick rfl rfl rfl) rfl rfl ?_
    refine AA.done rfl ?_
    clear fzr4 fzc1 fzc2 fzc3 fzr10 fzc4 hok
    refine EE.thenN ?_
    refine CC.no rfl ?_
    refine CC.skip ?_
    refine EE.thenN ?_
    refine CC.tailB 15 (by kernel_rfl) (by kernel_rfl) (fun Wi10 bi9 zi11 => ?_)
    replace bi6 := bi6.trans (bi9.mono bi6.size)
    replace bi1 := bi1.trans (bi9.mono bi1.size)
    replace q := q.trans (bi9.mono q.size)
    replace r4 := r4.up bi9
    replace hcs := hcs.up bi9
    replace c1 := cell_up c1 bi9
    replace c2 := cell_up c2 bi9
    replace c3 := cell_up c3 bi9
    replace r10 := r10.up bi9
    replace c4 := cell_up c4 bi9
    refine SS.val (R.move rfl rfl) rfl rfl ?_
    refine SS.val (R.move rfl rfl) rfl rfl ?_
    refine SS.val (R.index rfl rfl rfl (I.ixS rfl (by omega))) rfl rfl ?_
    refine SS.val (R.field rfl rfl (I.fld rfl)) rfl rfl ?_
    refine SS.val (R.load rfl rfl (I.ld1 rfl (by assumption))) rfl rfl ?_
    refine SS.val (R.move rfl rfl) rfl rfl ?_
    refine SS.val (R.addN rfl rfl rfl (by omega)) rfl rfl ?_
    refine SS.val (R.move rfl rfl) rfl rfl ?_
    refine SS.val (R.move rfl rfl) rfl rfl ?_
    refine SS.val (R.index rfl rfl rfl (I.ixS rfl (by omega))) rfl rfl ?_
    refine SS.val (R.field rfl rfl (I.fld rfl)) rfl rfl ?_
    refine SS.val (R.load rfl rfl (I.ld1 rfl (by assumption))) rfl rfl ?_
    refine SS.val (R.move rfl rfl) rfl rfl ?_
    refine SS.val (R.addN rfl rfl rfl (by omega)) rfl rfl ?_
    refine SS.val (R.index rfl rfl rfl (I.ixA1 rfl (by omega))) rfl rfl ?_
    refine SS.nil ?_
    refine LL.storeZ rfl rfl (Nat.zero_add _) rfl rfl r10 (by first | omega | (simp only [List.length_set, List.length_replicate]; omega) | (rw [plOf_len]; omega)) rfl rfl ?_
    intro Wi13 ri14 bi12 zi15
    have hlbi12 := r10.lt
    clear r10
    replace q := q.grown bi12 q.size (by rintro k ⟨⟩; omega)
    replace r4 := r4.gr bi12 (by have := r4.lt; omega)
    have r10 := ri14
    clear ri14
    refine LL.nil ?_
    refine EE.inN ?_
    refine EE.thenN ?_
    refine CC.region ?_
    refine LL.val (R.move rfl rfl) rfl rfl rfl ?_
    refine LL.val (R.addNc rfl rfl rfl rfl (by omega)) rfl rfl rfl ?_
    refine LL.val (R.assign rfl rfl) rfl rfl rfl ?_
    refine LL.nil ?_
    exact EE.round (k + 1) ⟨rfl, rfl, rfl, rfl, rfl, trivial⟩ ⟨by omega, q, by omega, r4, by rw [hsg2, hset]; assumption, by rw [hsg2]; exact hds2⟩ (by omega)
end Go.Proofs.YtklfopclaonggaaDoor
