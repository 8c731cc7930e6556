/- The statements' waits. -/
import Derived.Test.YtcchffdnbamkoaaWaits
import Derived.Test.YtcchffdnbamkoaaRef
import Derived.Test.YtcchffdnbamkoaaTNew
import Derived.Test.YtcchffdnbamkoaaTSet
namespace Go.Proofs.Ytcchffdnbamkoaa
set_option linter.unusedVariables false
set_option linter.unusedSimpArgs false
open Go.RowKit Go.Shelf

theorem OwnsT.turns {α : Type} {enc : α → List Value} {k : Nat} {W W' : World} {base e B m : Nat} {v : Value} {ts : List α} (h : OwnsT enc k W base e v ts) (ht : Turns B m W W') (hm : m ≤ base) : OwnsT enc k W' base e v ts := by
  refine ⟨h.1, ?_⟩
  rcases h.2 with h2 | ⟨g', cap, cur, rfl, hbg, hb, h3⟩
  · exact .inl h2
  · exact .inr ⟨g', cap, cur, rfl, hbg, ht.same g' _ hb (.inr ⟨by omega, rfl⟩), h3⟩
theorem Stays.own {α : Type} {enc : α → List Value} {k : Nat} {W W' : World} {e B m : Nat} {v : Value} {ts : List α} (h : OwnsT enc k W m e v ts) (hg : W.grownBy W' v.ownBlock) : Stays B m W W' := by
  refine ⟨hg.size, fun j o hj ho hc => ?_⟩
  have hlt := (Array.getElem?_eq_some_iff.1 ho).1
  have key : v.ownBlock ≠ some j := by
    rcases h.2 with ⟨rfl, _⟩ | ⟨g', cap, cur, rfl, hbg, hb, _⟩
    · simp [Value.ownBlock]
    · intro e2
      have e3 : g' = j := by simpa [Value.ownBlock] using e2
      subst e3
      rw [hb] at ho
      cases ho
      rcases hc with hc | hc
      · omega
      · cases hc
  refine (hg.block j hlt ?_).trans ho
  first
    | exact key
    | exact fun e => key e.symm
theorem keeps_owned {D : Nat → Prop} {W W' : World} {r : Option Nat} (hg : W.grownBy W' r) (h : ∀ k, D k → k < W.heap.size ∧ r ≠ some k) : Keeps D W W' :=
  ⟨hg.size, fun k hk => hg.block k (h k hk).1 (by first | exact (h k hk).2 | exact fun e => (h k hk).2 e.symm)⟩

theorem numP_map (ts : List Tn) : (numP ts).map (·.2) = ts := by
  apply List.ext_getElem?
  intro i
  rw [List.getElem?_map]
  simp only [numP, List.getElem?_mapIdx, Option.map_map]
  cases ts[i]? <;> rfl
set_option maxRecDepth 100000 in
set_option maxHeartbeats 4000000 in
/-- From the iterator on. -/
theorem waits_of (v0 : Value) (ws : List Tn) (w : World) (hl : ws.length ≤ 1048576)
    (hcall : ∀ w2 : World, Below w.heap.size w w2 → Calls Try.prog 21 #[v0] w2 fun e w' => ∃ b v, e = .returned (.func (.func 31) #[] [Value.pointer (some ⟨b, 0, none⟩)].toArray) ∧ w2.heap.size ≤ b ∧ RowL w' b 26 [v] ∧ OwnsT tE 2 w' w2.heap.size 51 v ws ∧ v.ownBlock ≠ some b ∧ Below w2.heap.size w2 w') :
    Calls Try.prog 13 #[v0] w fun e w' => ∃ v, e = .returned (.tuple #[v, .bool true]) ∧ OwnsT tE 2 w' w.heap.size 51 v ws ∧ Below w.heap.size w w' := by
  refine X.fnM Try.func13 rfl (n := 24) rfl rfl ?_
  (refine CC.seq ?_; refine CC.region ?_)
  refine LL.alloc [.slice none 0 0] rfl rfl rfl rfl rfl ?_
  intro w1 g1 e1 r1 z1 b1
  refine LL.alloc [.bool false] rfl rfl rfl rfl rfl ?_
  intro w2 g2 e2 r2 z2 b2
  (refine LL.nilS ?_; refine CC.seq ?_; refine CC.region ?_)
  refine LL.alloc [.slice none 0 0] rfl rfl rfl rfl rfl ?_
  intro w3 g3 e3 r3 z3 b3
  have y1 := b1.size
  have y2 := b2.size
  have y3 := b3.size
  have q3 : Below w.heap.size w w3 := (b1.trans (b2.mono y1)).trans (b3.mono (by omega))
  (refine LL.nilS ?_; refine CC.seq ?_; refine CC.region ?_; refine LL.val (R.move rfl rfl) rfl rfl rfl ?_)
  refine LL.call (R.call rfl rfl rfl) rfl rfl rfl (hcall w3 q3) ?_
  rintro e w4 ⟨b, v, rfl, hb, rb, ov, hvb, b4⟩
  refine ⟨_, rfl, ?_⟩
  have y4 := b4.size
  have q4 : Below w.heap.size w w4 := q3.trans (b4.mono q3.size)
  have r14 : RowL w4 g1 26 [.slice none 0 0] := ((r1.below b2 r1.lt).below b3 (by have := r1.lt; omega)).below b4 (by have := r1.lt; omega)
  have r24 : RowL w4 g2 4 [.bool false] := (r2.below b3 r2.lt).below b4 (by have := r2.lt; omega)
  have r34 : RowL w4 g3 26 [.slice none 0 0] := r3.below b4 r3.lt
  have hg1l := r14.lt
  have hg2l := r24.lt
  have hg3l := r34.lt
  obtain ⟨a, cap, rfl, hcap⟩ := (ov.reads tEnc).form (n := ws.length) rfl
  have hDk : ∀ k, (0 < ws.length ∧ ∃ x : Addr, a = some x ∧ k = x.block) → w3.heap.size ≤ k ∧ k < w4.heap.size := by
    rintro k ⟨h0, x, rfl, rfl⟩
    rcases ov.block with ⟨e, _⟩ | ⟨g', cap', e, _, h1, h2⟩
    · cases e
    · cases e; exact ⟨h1, h2⟩
  (refine LL.val (R.assign rfl rfl) rfl rfl rfl ?_; refine LL.nilS ?_; refine CC.seq ?_; refine CC.seq ?_; refine CC.region ?_; refine LL.val (R.move rfl rfl) rfl rfl rfl ?_; refine LL.val (R.eqFn rfl rfl rfl rfl) rfl rfl rfl ?_; refine LL.nilS ?_; refine CC.no rfl ?_; refine CC.skip ?_; refine EE.thenN ?_; refine CC.seq ?_; refine CC.seq ?_; refine CC.region ?_; refine LL.val (R.move rfl rfl) rfl rfl rfl ?_; refine LL.nilS ?_; refine CC.block ?_)
  refine CC.rangeM (γ := Nat) (gf := 31) (lb := [Value.pointer (some ⟨b, 0, none⟩)]) (encs := encN) rfl rfl (waits_gives b ws.length cap a ws w4 rb (ov.reads tEnc) rfl hl) (Below.refl _ _) (fun k hk => (hDk k hk).2) (fun _ => rfl) rfl
    (fun m pre W' => Below w.heap.size w W' ∧ RowL W' g1 26 [.slice none 0 0] ∧ RowL W' g2 4 [.bool false] ∧ ∃ u, RowL W' g3 26 [u] ∧ OwnsT tE 2 W' (max m w4.heap.size) 51 u (pre.map (·.2)))
    (fun m pre W' => False)
    (fun W' => Below w.heap.size w W' ∧ RowL W' g1 26 [.slice none 0 0] ∧ RowL W' g2 4 [.bool false] ∧ ∃ u, RowL W' g3 26 [u] ∧ OwnsT tE 2 W' w4.heap.size 51 u ws)
    ?hI (fun m s X Y hs ht => hs) (fun m => ⟨q4, r14, r24, _, r34, OwnsT.none _ _ _⟩) ?hIA (fun m pre W' hp hi => hi.elim)
    (fun x g4 => sl [(4, .pointer (some ⟨g3, 0, none⟩)), (6, .int .i64 (x.1 : Int)), (7, .pointer (some ⟨g4, 0, none⟩))]) (fun x g4 W' => RowL W' g4 51 (tE x.2)) (fun x g4 => RowL.own) ?assign ?body ?after
  case hI =>
    rintro m s X Y ⟨h1, h2, h3, u, h4, h5⟩ ht
    exact ⟨h1.trans (ht.below (by omega) h1.size), ht.same g1 _ h2 (.inl hg1l), ht.same g2 _ h3 (.inl hg2l), u, ht.same g3 _ h4 (.inl hg3l), h5.turns ht (Nat.le_max_left _ _)⟩
  case hIA =>
    rintro m xs W' rfl ⟨h1, h2, h3, u, h4, h5⟩
    rw [numP_map] at h5
    exact ⟨h1, h2, h3, u, h4, h5.lower (Nat.le_max_right _ _)⟩
  case assign =>
    intro l' m pre x Wr K hm hm2 hi hK
    obtain ⟨h1, h2, h3, u, h4, h5⟩ := hi
    (refine CC.seq ?_; refine CC.region ?_; refine LL.val (R.assign rfl rfl) rfl rfl rfl ?_; refine LL.nilS ?_; refine CC.region ?_)
    refine LL.alloc (tE (0, false)) rfl rfl rfl rfl rfl ?_
    intro w5 g5 e5 r5 z5 b5
    skip
    refine LL.storeN (vs := tE x.2) rfl rfl rfl rfl r5 (Nat.le_of_ble_eq_true rfl) (tEnc.one x.2) rfl rfl ?_
    intro w6 r6 g6 z6
    have q6 : Below Wr.heap.size Wr w6 := b5.grown g6 (by omega) (by rintro k ⟨⟩; omega)
    (refine LL.nil ?_)
    exact EE.thenK fun a' F => hK a' w6 g5 (Stays.of_below q6) (Keeps.of_below (fun k hk => by have := (hDk k hk).2; omega) q6) ⟨h1.trans (q6.mono h1.size), h2.below q6 h2.lt, h3.below q6 h3.lt, u, h4.below q6 h4.lt, h5.below q6⟩ (F.keep _ ⟨rfl, rfl, rfl, trivial⟩) r6
  case body =>
    intro l' m pre x g4 Wr hm hm2 hl' hrl hi hax hp
    obtain ⟨h1, h2, h3, u, h4, h5⟩ := hi
    obtain ⟨hx1, hx2, hx3⟩ := numP_part hp
    have hpl : pre.length < ws.length := (List.getElem?_eq_some_iff.1 hx2).1
    obtain ⟨au, cu, rfl, hcu⟩ := (h5.reads tEnc).form (n := pre.length) (by simp)
    have hmm : max m w4.heap.size = m := Nat.max_eq_left hm
    rw [hmm] at h5
    (refine CC.block ?_; refine CC.seq ?_; refine CC.seq ?_; refine CC.region ?_; refine LL.val (R.move rfl rfl) rfl rfl rfl ?_; refine LL.val (R.load rfl rfl (I.ld1 rfl (RowL.cell (by assumption) rfl))) rfl rfl rfl ?_; refine LL.val (R.len rfl rfl rfl rfl) rfl rfl rfl ?_; refine LL.val (R.neF rfl rfl rfl (by omega)) rfl rfl rfl ?_; refine LL.nilS ?_; refine CC.no rfl ?_; refine CC.skip ?_; refine EE.thenN ?_; refine CC.region ?_; refine LL.val (R.load rfl rfl (I.ld1 rfl (RowL.cell (by assumption) rfl))) rfl rfl rfl ?_)
    refine LL.val (R.load rfl rfl (I.ldN (vs := tE x.2) rfl rfl (hax.cells rfl))) rfl rfl rfl ?_
    refine LL.lit (e := 51) (tE x.2) 1 rfl rfl (fun _ => by kernel_rfl) rfl rfl ?_
    intro w5 g5 e5 r5 z5 b5
    have rd : ReadsTn w5 (.slice (some ⟨g5, 0, none⟩) 1 1) [x.2] := RowL.readsT (ts := [x.2]) tEnc (by simpa using r5) 1 (by simp)
    have o5 := h5.below b5
    have y5 := b5.size
    refine LL.appendT rfl rfl tEnc ElTurn o5 rd (by simp [maxLen]; omega) (by simp; omega) (by omega) rfl rfl ?_
    intro v6 w6 o6 g6
    have y6 := g6.size
    have hown : ∀ k, k < w4.heap.size → (Value.slice au pre.length cu).ownBlock ≠ some k := by
      intro k hk
      rcases o5.above with h0 | ⟨b, h0, hb1, _⟩
      · rw [h0]; simp
      · rw [h0]; intro e; cases e; omega
    have r16 : RowL w6 g1 26 [.slice none 0 0] := (h2.below b5 h2.lt).same (g6.block g1 (by have := h2.lt; omega) (by first | exact hown g1 hg1l | exact fun e => hown g1 hg1l e.symm))
    have r26 : RowL w6 g2 4 [.bool false] := (h3.below b5 h3.lt).same (g6.block g2 (by have := h3.lt; omega) (by first | exact hown g2 hg2l | exact fun e => hown g2 hg2l e.symm))
    have r36 : RowL w6 g3 26 [.slice au pre.length cu] := (h4.below b5 h4.lt).same (g6.block g3 (by have := h4.lt; omega) (by first | exact hown g3 hg3l | exact fun e => hown g3 hg3l e.symm))
    have q6 : Below w.heap.size w w6 := (h1.trans (b5.mono h1.size)).grown g6 (by have := h1.size; omega) (fun k e => by
      rcases o5.above with h0 | ⟨b, h0, hb1, _⟩
      · rw [h0] at e; cases e
      · rw [h0] at e; cases e; have := q4.size; omega)
    have hst : Stays w4.heap.size m Wr w6 := (Stays.of_below b5).trans (Stays.own o5 g6)
    have hkp : Keeps (fun k => 0 < ws.length ∧ ∃ x : Addr, a = some x ∧ k = x.block) Wr w6 := (Keeps.of_below (fun k hk => by have := (hDk k hk).2; omega) b5).trans (keeps_owned g6 fun k hk => ⟨by have := (hDk k hk).2; omega, hown k (hDk k hk).2⟩)
    obtain ⟨a6, c6, rfl, _⟩ := (o6.reads tEnc).form (n := pre.length + 1) (by simp)
    have hne6 : (Value.slice a6 (pre.length + 1) c6).ownBlock ≠ some g3 := by
      rcases o6.above with h0 | ⟨b, h0, hb1, _⟩
      · rw [h0]; simp
      · rw [h0]; intro e; cases e; omega
    skip
    refine LL.store rfl rfl rfl rfl r36 (Nat.le_of_ble_eq_true rfl) rfl rfl rfl rfl ?_
    intro w7 r7 g7 z7
    (refine LL.nil ?_; refine EE.inN ?_)
    refine EE.roundN ⟨hst.trans (Stays.of_grown g7 hg3l), hkp.trans (keeps_owned g7 fun k hk => ⟨by have := (hDk k hk).2; omega, ?_⟩), q6.grown g7 q6.size (by rintro k ⟨⟩; omega), r16.same (g7.block g1 r16.lt (by simp; omega)), r26.same (g7.block g2 r26.lt (by simp; omega)), _, r7, ?_⟩
    · intro e
      cases e
      have := (hDk g3 hk).1
      omega
    · rw [hmm]
      have : (pre ++ [x]).map (·.2) = pre.map (·.2) ++ [x.2] := by simp
      rw [this]
      exact o6.grown g7 hne6
  case after =>
    rintro E Wd hE ⟨h1, h2, h3, u, h4, h5⟩ hK
    obtain ⟨au, cu, rfl, hcu⟩ := (h5.reads tEnc).form (n := ws.length) rfl
    have hown : ∀ k, k < w4.heap.size → (Value.slice au ws.length cu).ownBlock ≠ some k := by
      intro k hk
      rcases h5.above with h0 | ⟨b, h0, hb1, _⟩
      · rw [h0]; simp
      · rw [h0]; intro e; cases e; omega
    have hownE : (Value.slice au ws.length cu).ownBlock ≠ some E := by
      intro e
      rcases h5.2 with ⟨e1, _⟩ | ⟨g', cap', cur, e1, _, hb, _⟩
      · rw [e1] at e; cases e
      · rw [e1] at e
        have e3 : g' = E := by simpa [Value.ownBlock] using e
        subst e3
        rw [hb] at hK
        cases hK
    (refine EE.thenN ?_; refine CC.seq ?_; refine CC.region ?_; refine LL.val (R.load rfl rfl (I.ld1 rfl (RowL.cell (by assumption) rfl))) rfl rfl rfl ?_)
    refine LL.store rfl rfl rfl rfl h2 (Nat.le_of_ble_eq_true rfl) rfl rfl rfl rfl ?_
    intro w5 r5 g5 z5
    have r25 := h3.same (g5.block g2 h3.lt (by simp; omega))
    skip
    refine LL.store rfl rfl rfl rfl r25 (Nat.le_of_ble_eq_true rfl) rfl rfl rfl rfl ?_
    intro w6 r6 g6 z6
    have r16 := r5.same (g6.block g1 r5.lt (by simp; omega))
    have hEl : E < Wd.heap.size := (Array.getElem?_eq_some_iff.1 hK).1
    have hK6 : w6.heap[E]? = some (.deferred (some [])) := (g6.block E (by omega) (by simp; omega)).trans ((g5.block E hEl (by simp; omega)).trans hK)
    have o6 := (h5.grown g5 (hown g1 hg1l)).grown g6 (hown g2 hg2l)
    have q6 : Below w.heap.size w w6 := (h1.grown g5 h1.size (by rintro k ⟨⟩; omega)).grown g6 (by have := h1.size; omega) (by rintro k ⟨⟩; omega)
    have gt : w6.grownBy (taken E w6) (some E) := grownBy_putObj' _ _ _
    have r17 := r16.same (gt.block g1 r16.lt (by simp; omega))
    have r27 := r6.same (gt.block g2 r6.lt (by simp; omega))
    (refine LL.nilS ?_; refine CC.ret ?_)
    refine EE.retN2 hK6 rfl ⟨_, rfl, lv1 rfl (r17.cell rfl)⟩ ⟨_, rfl, lv1 rfl (r27.cell rfl)⟩ ?_
    exact ⟨_, rfl, (o6.grown gt hownE).lower (by have := q4.size; omega), taken_bel q6 (by have := q4.size; omega) (Nat.le_refl _)⟩
end Go.Proofs.Ytcchffdnbamkoaa
