/- The document's Ask, Free. -/
import Derived.Test.YtcchffdnbamkoaaDoc
import Derived.Test.YtcchffdnbamkoaaSplit
namespace Go.Proofs.Ytcchffdnbamkoaa
set_option linter.unusedVariables false
set_option linter.unusedSimpArgs false
open Go.RowKit Go.Shelf

/-- Two ways that meet. -/
structure Later (A : Prop) : Prop where
  out : A
theorem twice {A B : Prop} (p : Prop) (k : A) (f : p → Later A → B) (g : ¬ p → Later A → B) : B := by
  by_cases h : p
  · exact f h ⟨k⟩
  · exact g h ⟨k⟩
theorem one2 (u v : Value) (hu : u.oneCell' = true) (hv : v.oneCell' = true) : ∀ x ∈ [u, v], x.oneCell' = true := by
  intro x hx
  simp only [List.mem_cons, List.not_mem_nil, or_false] at hx
  rcases hx with rfl | rfl
  · exact hu
  · exact hv
set_option maxRecDepth 100000 in
set_option maxHeartbeats 4000000 in
theorem rask_any {K : Nat → Prop} {uh uw : Value} {S : LS} (c : Int) (wr : Bool) (w : World) (h : DocAt w K uh uw S) (hK : ∀ j, K j → j < w.heap.size) (hl : S.1.length + S.2.length ≤ 90) :
    Calls Try.prog 23 #[.agg #[uh, uw], .int .i64 c, .bool wr] w fun e w' => ∃ uh' uw', e = .returned (.tuple #[.agg #[uh', uw'], .int .i64 ((askP S c wr).2 : Int)]) ∧ DocAt w' (newer K w w') uh' uw' (askP S c wr).1 ∧ Below w.heap.size w w' := by
  obtain ⟨a1, cp1, rfl, _⟩ := h.held.form rfl
  obtain ⟨a2, cp2, rfl, _⟩ := h.waits.form rfl
  refine X.fn Try.func23 rfl (n := 38) rfl rfl ?_
  (refine CC.seq ?_; refine CC.region ?_)
  refine LL.box [.slice a1 S.1.length cp1, .slice a2 S.2.length cp2] rfl rfl rfl rfl rfl ?_
  intro w1 g1 e1 r1 z1 b1
  refine LL.alloc [.slice none 0 0, .slice none 0 0] rfl rfl rfl rfl rfl ?_
  intro w2 g2 e2 r2 z2 b2
  have y1 := b1.size
  have y2 := b2.size
  have q2 : Below w.heap.size w w2 := b1.trans (b2.mono y1)
  have r12 := r1.below b2 (by omega)
  have hg1l := r12.lt
  have hg2l := r2.lt
  have hD2 : DocAt w2 (butK (newer K w w2) g1 g2) (.slice a1 S.1.length cp1) (.slice a2 S.2.length cp2) S := (h.below q2).less fun j hj => ⟨.inl hj, by have := hK j hj; omega, by have := hK j hj; omega⟩
  have herr : ∀ (w5 : World), RowL w5 g2 28 [.slice a1 S.1.length cp1, .slice a2 S.2.length cp2] → w2.grownBy w5 (some g2) → DocAt w5 (newer K w w5) (.slice a1 S.1.length cp1) (.slice a2 S.2.length cp2) S ∧ Below w.heap.size w w5 := fun w5 r5 g5 =>
    ⟨(hD2.kept (butK_kept hK q2.size g5 (.inr rfl))).less fun j hj => newer_mono g5.size hj.1, q2.grown g5 q2.size (by rintro k ⟨⟩; omega)⟩
  (refine LL.val (R.assign rfl rfl) rfl rfl rfl ?_; refine LL.nilS ?_; refine CC.seq ?_; refine CC.seq ?_; refine CC.region ?_; refine LL.val (R.move rfl rfl) rfl rfl rfl ?_)
  by_cases h1 : c < 0 ∨ 8 ≤ c
  · have e1 : askP S c wr = (S, 2) := by unfold askP; rw [if_pos h1]
    rw [e1]
    rcases h1 with h1 | h1
    · (refine LL.val (R.ltT rfl rfl rfl (by omega)) rfl rfl rfl ?_; refine LL.val (R.move rfl rfl) rfl rfl rfl ?_; refine LL.skip rfl rfl ?_; refine LL.skip rfl rfl ?_; refine LL.val (R.pick rfl rfl rfl) rfl rfl rfl ?_; refine LL.nilS ?_; refine CC.yes rfl ?_; refine CC.seq ?_; refine CC.region ?_)
      refine LL.val (R.load rfl rfl (I.ldN rfl rfl (r12.cells (vs := [.slice a1 S.1.length cp1, .slice a2 S.2.length cp2]) rfl))) rfl rfl rfl ?_
      refine LL.storeN (vs := [.slice a1 S.1.length cp1, .slice a2 S.2.length cp2]) rfl rfl rfl rfl r2 (Nat.le_of_ble_eq_true rfl) (one2 _ _ rfl rfl) rfl rfl ?_
      intro w5 r5 g5 z5
      (refine LL.val (R.assign rfl rfl) rfl rfl rfl ?_; refine LL.nilS ?_; refine CC.ret ?_; refine EE.thenR ?_)
      refine EE.ret2 rfl ⟨_, rfl, lvN (vs := [.slice a1 S.1.length cp1, .slice a2 S.2.length cp2]) rfl rfl (r5.cells rfl)⟩ rfl ?_
      exact ⟨_, _, rfl, herr w5 r5 g5⟩
    · (refine LL.val (R.ltF rfl rfl rfl (by omega)) rfl rfl rfl ?_; refine LL.val (R.move rfl rfl) rfl rfl rfl ?_; refine LL.val (R.move rfl rfl) rfl rfl rfl ?_; refine LL.val (R.gtT rfl rfl rfl (by omega)) rfl rfl rfl ?_; refine LL.val (R.pick rfl rfl rfl) rfl rfl rfl ?_; refine LL.nilS ?_; refine CC.yes rfl ?_; refine CC.seq ?_; refine CC.region ?_)
      refine LL.val (R.load rfl rfl (I.ldN rfl rfl (r12.cells (vs := [.slice a1 S.1.length cp1, .slice a2 S.2.length cp2]) rfl))) rfl rfl rfl ?_
      refine LL.storeN (vs := [.slice a1 S.1.length cp1, .slice a2 S.2.length cp2]) rfl rfl rfl rfl r2 (Nat.le_of_ble_eq_true rfl) (one2 _ _ rfl rfl) rfl rfl ?_
      intro w5 r5 g5 z5
      (refine LL.val (R.assign rfl rfl) rfl rfl rfl ?_; refine LL.nilS ?_; refine CC.ret ?_; refine EE.thenR ?_)
      refine EE.ret2 rfl ⟨_, rfl, lvN (vs := [.slice a1 S.1.length cp1, .slice a2 S.2.length cp2]) rfl rfl (r5.cells rfl)⟩ rfl ?_
      exact ⟨_, _, rfl, herr w5 r5 g5⟩
  obtain ⟨n, rfl⟩ : ∃ n : Nat, c = n := ⟨c.toNat, by omega⟩
  (refine LL.val (R.ltF rfl rfl rfl (by omega)) rfl rfl rfl ?_; refine LL.val (R.move rfl rfl) rfl rfl rfl ?_; refine LL.val (R.move rfl rfl) rfl rfl rfl ?_; refine LL.val (R.gtF rfl rfl rfl (by omega)) rfl rfl rfl ?_; refine LL.val (R.pick rfl rfl rfl) rfl rfl rfl ?_; refine LL.nilS ?_; refine CC.no rfl ?_; refine CC.skip ?_; refine EE.thenN ?_; refine CC.seq ?_; refine CC.seq ?_; refine CC.region ?_; refine LL.val (R.field rfl rfl (I.fld rfl)) rfl rfl rfl ?_; refine LL.val (R.load rfl rfl (I.ld1 rfl (RowL.cell (by assumption) rfl))) rfl rfl rfl ?_; refine LL.val (R.move rfl rfl) rfl rfl rfl ?_)
  refine LL.call (R.call rfl rfl rfl) rfl rfl rfl (rhas_any _ S.1 n w2 hD2.held (by omega)) ?_
  rintro e w3 ⟨rfl, rfl⟩
  refine ⟨_, rfl, ?_⟩
  by_cases h2 : hasP S.1 n
  · have e1 : askP S n wr = (S, 191) := by unfold askP; rw [if_neg h1, if_pos (hasP_app.2 (.inl h2))]
    have h2' : ∃ t ∈ S.1, (t.1 : Int) = n := h2
    rw [e1, decide_eq_true h2']
    (refine LL.val (R.move rfl rfl) rfl rfl rfl ?_; refine LL.skip rfl rfl ?_; refine LL.skip rfl rfl ?_; refine LL.skip rfl rfl ?_; refine LL.skip rfl rfl ?_; refine LL.val (R.pick rfl rfl rfl) rfl rfl rfl ?_; refine LL.nilS ?_; refine CC.yes rfl ?_; refine CC.seq ?_; refine CC.region ?_)
    refine LL.val (R.load rfl rfl (I.ldN rfl rfl (r12.cells (vs := [.slice a1 S.1.length cp1, .slice a2 S.2.length cp2]) rfl))) rfl rfl rfl ?_
    refine LL.storeN (vs := [.slice a1 S.1.length cp1, .slice a2 S.2.length cp2]) rfl rfl rfl rfl r2 (Nat.le_of_ble_eq_true rfl) (one2 _ _ rfl rfl) rfl rfl ?_
    intro w5 r5 g5 z5
    (refine LL.val (R.assign rfl rfl) rfl rfl rfl ?_; refine LL.nilS ?_; refine CC.ret ?_; refine EE.thenR ?_)
    refine EE.ret2 rfl ⟨_, rfl, lvN (vs := [.slice a1 S.1.length cp1, .slice a2 S.2.length cp2]) rfl rfl (r5.cells rfl)⟩ rfl ?_
    exact ⟨_, _, rfl, herr w5 r5 g5⟩
  have h2' : ¬ ∃ t ∈ S.1, (t.1 : Int) = n := h2
  rw [decide_eq_false h2']
  (refine LL.val (R.move rfl rfl) rfl rfl rfl ?_; refine LL.val (R.field rfl rfl (I.fld rfl)) rfl rfl rfl ?_; refine LL.val (R.load rfl rfl (I.ld1 rfl (RowL.cell (by assumption) rfl))) rfl rfl rfl ?_; refine LL.val (R.move rfl rfl) rfl rfl rfl ?_)
  refine LL.call (R.call rfl rfl rfl) rfl rfl rfl (rhas_any _ S.2 n w2 hD2.waits (by omega)) ?_
  rintro e w3 ⟨rfl, rfl⟩
  refine ⟨_, rfl, ?_⟩
  by_cases h3 : hasP S.2 n
  · have e1 : askP S n wr = (S, 191) := by unfold askP; rw [if_neg h1, if_pos (hasP_app.2 (.inr h3))]
    have h3' : ∃ t ∈ S.2, (t.1 : Int) = n := h3
    rw [e1, decide_eq_true h3']
    (refine LL.val (R.pick rfl rfl rfl) rfl rfl rfl ?_; refine LL.nilS ?_; refine CC.yes rfl ?_; refine CC.seq ?_; refine CC.region ?_)
    refine LL.val (R.load rfl rfl (I.ldN rfl rfl (r12.cells (vs := [.slice a1 S.1.length cp1, .slice a2 S.2.length cp2]) rfl))) rfl rfl rfl ?_
    refine LL.storeN (vs := [.slice a1 S.1.length cp1, .slice a2 S.2.length cp2]) rfl rfl rfl rfl r2 (Nat.le_of_ble_eq_true rfl) (one2 _ _ rfl rfl) rfl rfl ?_
    intro w5 r5 g5 z5
    (refine LL.val (R.assign rfl rfl) rfl rfl rfl ?_; refine LL.nilS ?_; refine CC.ret ?_; refine EE.thenR ?_)
    refine EE.ret2 rfl ⟨_, rfl, lvN (vs := [.slice a1 S.1.length cp1, .slice a2 S.2.length cp2]) rfl rfl (r5.cells rfl)⟩ rfl ?_
    exact ⟨_, _, rfl, herr w5 r5 g5⟩
  have h3' : ¬ ∃ t ∈ S.2, (t.1 : Int) = n := h3
  rw [decide_eq_false h3']
  have e1 : askP S n wr = (giveP S.1 (S.2 ++ [(n, wr)]), 0) := by
    unfold askP
    rw [if_neg h1, if_neg (by rw [hasP_app]; rintro (h | h); exact h2 h; exact h3 h)]
    simp
  rw [e1]
  (refine LL.val (R.pick rfl rfl rfl) rfl rfl rfl ?_; refine LL.nilS ?_; refine CC.no rfl ?_; refine CC.skip ?_; refine EE.thenN ?_; refine CC.seq ?_; refine CC.region ?_)
  refine LL.lit (e := 51) [] 0 rfl rfl (fun _ => by kernel_rfl) rfl rfl ?_
  intro w3 g3 e3 r3 z3 b3
  have r13 := r12.below b3 hg1l
  have hD3 := hD2.below b3
  (refine LL.val (R.field rfl rfl (I.fld rfl)) rfl rfl rfl ?_; refine LL.val (R.load rfl rfl (I.ld1 rfl (RowL.cell (by assumption) rfl))) rfl rfl rfl ?_)
  refine LL.append0 (base := w2.heap.size) rfl rfl tEnc ElTurn (RowL.ownsT (ts := []) tEnc r3 (by omega) (by simp [maxLen])) hD3.waits (by simp [maxLen]; omega) (by omega) b3.size rfl rfl ?_
  intro v4 w4 o4 b4
  (refine LL.val (R.move rfl rfl) rfl rfl rfl ?_; refine LL.val (R.move rfl rfl) rfl rfl rfl ?_)
  refine LL.val (R.buildV rfl rfl (v := .agg (tE (n, wr)).toArray) (fun _ => by kernel_rfl)) rfl rfl rfl ?_
  refine LL.lit (e := 51) (tE (n, wr)) 1 rfl rfl (fun _ => by kernel_rfl) rfl rfl ?_
  intro w5 g5 e5 r5 z5 b5
  have rd : ReadsTn w5 (.slice (some ⟨g5, 0, none⟩) 1 1) [(n, wr)] := RowL.readsT (ts := [(n, wr)]) tEnc (by simpa using r5) 1 (by simp)
  have y3 := b3.size
  have y4 := b4.size
  have y5 := b5.size
  have o5 := o4.below b5
  refine LL.appendT2 rfl rfl tEnc ElTurn o5 rd (by simp [maxLen]; omega) (by simp; omega) (by omega) rfl rfl ?_
  intro v6 w6 o6 g6 hwhere
  have b25 : Below w2.heap.size w2 w5 := (b3.trans (b4.mono y3)).trans (b5.mono (by omega))
  have b26 : Below w2.heap.size w2 w6 := b25.trans (o5.bel g6 (by omega))
  have y6 := b26.size
  have r16 := r12.below b26 hg1l
  have r26 := r2.below b26 hg2l
  have hD6 := hD2.below b26
  obtain ⟨a6, cp6, rfl, _⟩ := (o6.reads tEnc).form (n := S.2.length + 1) (by simp)
  have hat6 := o6.at
  have hne6 : (Value.slice a6 (S.2.length + 1) cp6).ownBlock ≠ some g1 := by
    rcases o6.above with h0 | ⟨b, h0, h1, _⟩
    · rw [h0]; simp
    · rw [h0]; intro e; cases e; omega
  (refine LL.val (R.field rfl rfl (I.fld rfl)) rfl rfl rfl ?_)
  refine LL.store rfl rfl rfl rfl r16 (Nat.le_of_ble_eq_true rfl) rfl rfl rfl rfl ?_
  intro w7 r7 g7 z7
  have r27 : RowL w7 g2 28 [.slice none 0 0, .slice none 0 0] := r26.same (g7.block g2 r26.lt (by simp; omega))
  have q6 : Below w.heap.size w w6 := q2.trans (b26.mono q2.size)
  have q7 : Below w.heap.size w w7 := q6.grown g7 q6.size (by rintro k ⟨⟩; omega)
  have hD7 : DocAt w7 (butK (newer K w w7) g1 g2) (.slice a1 S.1.length cp1) (.slice a6 (S.2.length + 1) cp6) (S.1, S.2 ++ [(n, wr)]) := by
    have hk : DocAt w6 (butK (newer K w w6) g1 g2) (.slice a1 S.1.length cp1) (.slice a6 (S.2.length + 1) cp6) (S.1, S.2 ++ [(n, wr)]) :=
      ⟨hD6.held, o6.reads tEnc, hD6.ah.less fun j hj => ⟨newer_mono y6 hj.1, hj.2⟩, hat6.less fun j hj => ⟨.inr ⟨by omega, hj.2⟩, by omega, by omega⟩⟩
    exact (hk.kept (butK_kept hK q6.size g7 (.inl rfl))).less fun j hj => ⟨newer_mono g7.size hj.1, hj.2⟩
  (refine LL.nilS ?_; refine CC.seq ?_; refine CC.region ?_)
  refine LL.val (R.load rfl rfl (I.ldN rfl rfl (r7.cells (vs := [.slice a1 S.1.length cp1, .slice a6 (S.2.length + 1) cp6]) rfl))) rfl rfl rfl ?_
  have hk7 : ∀ j, butK (newer K w w7) g1 g2 j → j < w7.heap.size := fun j hj => by
    rcases hj.1 with h | ⟨_, h⟩
    · have := hK j h; have := q7.size; omega
    · exact h
  refine LL.call (R.call rfl rfl rfl) rfl rfl rfl (rgiven_any (S := (S.1, S.2 ++ [(n, wr)])) w7 hD7 hk7 (by simp; omega)) ?_
  rintro e w8 ⟨xh, xw, rfl, hD8, b8⟩
  refine ⟨_, rfl, ?_⟩
  have r28 := r27.below b8 r27.lt
  obtain ⟨a8, cp8, rfl, _⟩ := hD8.held.form rfl
  obtain ⟨a9, cp9, rfl, _⟩ := hD8.waits.form rfl
  have y7 := q7.size
  have y8 := b8.size
  skip
  refine LL.storeN (vs := [.slice a8 _ cp8, .slice a9 _ cp9]) rfl rfl rfl rfl r28 (Nat.le_of_ble_eq_true rfl) (one2 _ _ rfl rfl) rfl rfl ?_
  intro w9 r9 g9 z9
  have hg27 := r27.lt
  have k9 : Kept (newer (butK (newer K w w7) g1 g2) w7 w8) w8 w9 := grown_kept g9 (fun j hj => by
      rcases hj with h | ⟨_, h⟩
      · have := hk7 j h; omega
      · exact h) fun j hj e => by
      cases e
      rcases hj with h | ⟨h, _⟩
      · exact h.2.2 rfl
      · omega
  have hD9 := (hD8.kept k9).less fun j hj => (show newer K w w9 j by
    have := g9.size
    rcases hj with h | ⟨h, h'⟩
    · exact newer_mono (by omega) h.1
    · exact .inr ⟨by omega, by omega⟩)
  (refine LL.val (R.assign rfl rfl) rfl rfl rfl ?_; refine LL.nilS ?_; refine CC.ret ?_)
  refine EE.ret2 rfl ⟨_, rfl, lvN (vs := [.slice a8 _ cp8, .slice a9 _ cp9]) rfl rfl (r9.cells rfl)⟩ rfl ?_
  exact ⟨_, _, rfl, hD9, (q7.trans (b8.mono y7)).grown g9 (by omega) (by rintro k ⟨⟩; omega)⟩

set_option maxRecDepth 100000 in
set_option maxHeartbeats 4000000 in
theorem rfreeL_any {K : Nat → Prop} {uh uw : Value} {S : LS} (c : Int) (w : World) (h : DocAt w K uh uw S) (hK : ∀ j, K j → j < w.heap.size) (hl : S.1.length + S.2.length ≤ 90) :
    Calls Try.prog 24 #[.agg #[uh, uw], .int .i64 c] w fun e w' => ∃ uh' uw', e = .returned (.tuple #[.agg #[uh', uw'], .int .i64 ((freeP S c).2 : Int)]) ∧ DocAt w' (newer K w w') uh' uw' (freeP S c).1 ∧ Below w.heap.size w w' := by
  obtain ⟨a1, cp1, rfl, _⟩ := h.held.form rfl
  obtain ⟨a2, cp2, rfl, _⟩ := h.waits.form rfl
  refine X.fn Try.func24 rfl (n := 38) rfl rfl ?_
  (refine CC.seq ?_; refine CC.region ?_)
  refine LL.box [.slice a1 S.1.length cp1, .slice a2 S.2.length cp2] rfl rfl rfl rfl rfl ?_
  intro w1 g1 e1 r1 z1 b1
  refine LL.alloc [.slice none 0 0, .slice none 0 0] rfl rfl rfl rfl rfl ?_
  intro w2 g2 e2 r2 z2 b2
  have y1 := b1.size
  have y2 := b2.size
  have q2 : Below w.heap.size w w2 := b1.trans (b2.mono y1)
  have r12 := r1.below b2 (by omega)
  have hg1l := r12.lt
  have hg2l := r2.lt
  have hD2 : DocAt w2 (butK (newer K w w2) g1 g2) (.slice a1 S.1.length cp1) (.slice a2 S.2.length cp2) S := (h.below q2).less fun j hj => ⟨.inl hj, by have := hK j hj; omega, by have := hK j hj; omega⟩
  have herr : ∀ (w5 : World), RowL w5 g2 28 [.slice a1 S.1.length cp1, .slice a2 S.2.length cp2] → w2.grownBy w5 (some g2) → DocAt w5 (newer K w w5) (.slice a1 S.1.length cp1) (.slice a2 S.2.length cp2) S ∧ Below w.heap.size w w5 := fun w5 r5 g5 =>
    ⟨(hD2.kept (butK_kept hK q2.size g5 (.inr rfl))).less fun j hj => newer_mono g5.size hj.1, q2.grown g5 q2.size (by rintro k ⟨⟩; omega)⟩
  (refine LL.val (R.assign rfl rfl) rfl rfl rfl ?_; refine LL.nilS ?_; refine CC.seq ?_; refine CC.seq ?_; refine CC.region ?_; refine LL.val (R.move rfl rfl) rfl rfl rfl ?_)
  by_cases h1 : c < 0 ∨ 8 ≤ c
  · have e1 : freeP S c = (S, 2) := by unfold freeP; rw [if_pos h1]
    rw [e1]
    rcases h1 with h1 | h1
    · (refine LL.val (R.ltT rfl rfl rfl (by omega)) rfl rfl rfl ?_; refine LL.val (R.move rfl rfl) rfl rfl rfl ?_; refine LL.skip rfl rfl ?_; refine LL.skip rfl rfl ?_; refine LL.val (R.pick rfl rfl rfl) rfl rfl rfl ?_; refine LL.nilS ?_; refine CC.yes rfl ?_; refine CC.seq ?_; refine CC.region ?_)
      refine LL.val (R.load rfl rfl (I.ldN rfl rfl (r12.cells (vs := [.slice a1 S.1.length cp1, .slice a2 S.2.length cp2]) rfl))) rfl rfl rfl ?_
      refine LL.storeN (vs := [.slice a1 S.1.length cp1, .slice a2 S.2.length cp2]) rfl rfl rfl rfl r2 (Nat.le_of_ble_eq_true rfl) (one2 _ _ rfl rfl) rfl rfl ?_
      intro w5 r5 g5 z5
      (refine LL.val (R.assign rfl rfl) rfl rfl rfl ?_; refine LL.nilS ?_; refine CC.ret ?_; refine EE.thenR ?_)
      refine EE.ret2 rfl ⟨_, rfl, lvN (vs := [.slice a1 S.1.length cp1, .slice a2 S.2.length cp2]) rfl rfl (r5.cells rfl)⟩ rfl ?_
      exact ⟨_, _, rfl, herr w5 r5 g5⟩
    · (refine LL.val (R.ltF rfl rfl rfl (by omega)) rfl rfl rfl ?_; refine LL.val (R.move rfl rfl) rfl rfl rfl ?_; refine LL.val (R.move rfl rfl) rfl rfl rfl ?_; refine LL.val (R.gtT rfl rfl rfl (by omega)) rfl rfl rfl ?_; refine LL.val (R.pick rfl rfl rfl) rfl rfl rfl ?_; refine LL.nilS ?_; refine CC.yes rfl ?_; refine CC.seq ?_; refine CC.region ?_)
      refine LL.val (R.load rfl rfl (I.ldN rfl rfl (r12.cells (vs := [.slice a1 S.1.length cp1, .slice a2 S.2.length cp2]) rfl))) rfl rfl rfl ?_
      refine LL.storeN (vs := [.slice a1 S.1.length cp1, .slice a2 S.2.length cp2]) rfl rfl rfl rfl r2 (Nat.le_of_ble_eq_true rfl) (one2 _ _ rfl rfl) rfl rfl ?_
      intro w5 r5 g5 z5
      (refine LL.val (R.assign rfl rfl) rfl rfl rfl ?_; refine LL.nilS ?_; refine CC.ret ?_; refine EE.thenR ?_)
      refine EE.ret2 rfl ⟨_, rfl, lvN (vs := [.slice a1 S.1.length cp1, .slice a2 S.2.length cp2]) rfl rfl (r5.cells rfl)⟩ rfl ?_
      exact ⟨_, _, rfl, herr w5 r5 g5⟩
  obtain ⟨n, rfl⟩ : ∃ n : Nat, c = n := ⟨c.toNat, by omega⟩
  (refine LL.val (R.ltF rfl rfl rfl (by omega)) rfl rfl rfl ?_; refine LL.val (R.move rfl rfl) rfl rfl rfl ?_; refine LL.val (R.move rfl rfl) rfl rfl rfl ?_; refine LL.val (R.gtF rfl rfl rfl (by omega)) rfl rfl rfl ?_; refine LL.val (R.pick rfl rfl rfl) rfl rfl rfl ?_; refine LL.nilS ?_; refine CC.no rfl ?_; refine CC.skip ?_; refine EE.thenN ?_; refine CC.seq ?_; refine CC.seq ?_; refine CC.region ?_; refine LL.val (R.field rfl rfl (I.fld rfl)) rfl rfl rfl ?_; refine LL.val (R.load rfl rfl (I.ld1 rfl (RowL.cell (by assumption) rfl))) rfl rfl rfl ?_; refine LL.val (R.move rfl rfl) rfl rfl rfl ?_)
  refine LL.call (R.call rfl rfl rfl) rfl rfl rfl (rhas_any _ S.1 n w2 hD2.held (by omega)) ?_
  rintro e w3 ⟨rfl, rfl⟩
  refine ⟨_, rfl, ?_⟩
  by_cases h0 : ¬ hasP (S.1 ++ S.2) n
  · have e1 : freeP S n = (S, 5) := by unfold freeP; rw [if_neg h1, if_neg h0]
    have h2' : ¬ ∃ t ∈ S.1, (t.1 : Int) = n := fun h => h0 (hasP_app.2 (.inl h))
    have h3' : ¬ ∃ t ∈ S.2, (t.1 : Int) = n := fun h => h0 (hasP_app.2 (.inr h))
    rw [e1, decide_eq_false h2']
    (refine LL.val (R.not rfl rfl) rfl rfl rfl ?_; refine LL.val (R.move rfl rfl) rfl rfl rfl ?_; refine LL.val (R.field rfl rfl (I.fld rfl)) rfl rfl rfl ?_; refine LL.val (R.load rfl rfl (I.ld1 rfl (RowL.cell (by assumption) rfl))) rfl rfl rfl ?_; refine LL.val (R.move rfl rfl) rfl rfl rfl ?_)
    refine LL.call (R.call rfl rfl rfl) rfl rfl rfl (rhas_any _ S.2 n w2 hD2.waits (by omega)) ?_
    rintro e w3 ⟨rfl, rfl⟩
    refine ⟨_, rfl, ?_⟩
    rw [decide_eq_false h3']
    (refine LL.val (R.not rfl rfl) rfl rfl rfl ?_; refine LL.val (R.pick rfl rfl rfl) rfl rfl rfl ?_; refine LL.nilS ?_; refine CC.yes rfl ?_; refine CC.seq ?_; refine CC.region ?_)
    refine LL.val (R.load rfl rfl (I.ldN rfl rfl (r12.cells (vs := [.slice a1 S.1.length cp1, .slice a2 S.2.length cp2]) rfl))) rfl rfl rfl ?_
    refine LL.storeN (vs := [.slice a1 S.1.length cp1, .slice a2 S.2.length cp2]) rfl rfl rfl rfl r2 (Nat.le_of_ble_eq_true rfl) (one2 _ _ rfl rfl) rfl rfl ?_
    intro w5 r5 g5 z5
    (refine LL.val (R.assign rfl rfl) rfl rfl rfl ?_; refine LL.nilS ?_; refine CC.ret ?_; refine EE.thenR ?_)
    refine EE.ret2 rfl ⟨_, rfl, lvN (vs := [.slice a1 S.1.length cp1, .slice a2 S.2.length cp2]) rfl rfl (r5.cells rfl)⟩ rfl ?_
    exact ⟨_, _, rfl, herr w5 r5 g5⟩
  have h0 := Classical.not_not.1 h0
  have e1 : freeP S n = (giveP (outP S.1 n) (outP S.2 n), 0) := by unfold freeP; rw [if_neg h1, if_pos h0]
  rw [e1]
  apply twice (hasP S.1 n)
  case f =>
    intro h2 a
    have h2' : ∃ t ∈ S.1, (t.1 : Int) = n := h2
    rw [decide_eq_true h2']
    (refine LL.val (R.not rfl rfl) rfl rfl rfl ?_; refine LL.val (R.move rfl rfl) rfl rfl rfl ?_; refine LL.skip rfl rfl ?_; refine LL.skip rfl rfl ?_; refine LL.skip rfl rfl ?_; refine LL.skip rfl rfl ?_; refine LL.skip rfl rfl ?_; refine LL.val (R.pick rfl rfl rfl) rfl rfl rfl ?_; refine LL.nilS ?_; refine CC.no rfl ?_; refine CC.skip ?_; refine EE.thenN ?_; refine CC.seq ?_)
    refine CC.keep [(1, .int .i64 (n : Int)), (2, .pointer (some ⟨g1, 0, none⟩)), (4, .pointer (some ⟨g2, 0, none⟩))] ⟨rfl, rfl, rfl, trivial⟩ ?_
    exact a.out
  case g =>
    intro h2 a
    have h2' : ¬ ∃ t ∈ S.1, (t.1 : Int) = n := h2
    have h3' : ∃ t ∈ S.2, (t.1 : Int) = n := (hasP_app.1 h0).resolve_left h2
    rw [decide_eq_false h2']
    (refine LL.val (R.not rfl rfl) rfl rfl rfl ?_; refine LL.val (R.move rfl rfl) rfl rfl rfl ?_; refine LL.val (R.field rfl rfl (I.fld rfl)) rfl rfl rfl ?_; refine LL.val (R.load rfl rfl (I.ld1 rfl (RowL.cell (by assumption) rfl))) rfl rfl rfl ?_; refine LL.val (R.move rfl rfl) rfl rfl rfl ?_)
    refine LL.call (R.call rfl rfl rfl) rfl rfl rfl (rhas_any _ S.2 n w2 hD2.waits (by omega)) ?_
    rintro e w3 ⟨rfl, rfl⟩
    refine ⟨_, rfl, ?_⟩
    rw [decide_eq_true h3']
    (refine LL.val (R.not rfl rfl) rfl rfl rfl ?_; refine LL.val (R.pick rfl rfl rfl) rfl rfl rfl ?_; refine LL.nilS ?_; refine CC.no rfl ?_; refine CC.skip ?_; refine EE.thenN ?_; refine CC.seq ?_)
    refine CC.keep [(1, .int .i64 (n : Int)), (2, .pointer (some ⟨g1, 0, none⟩)), (4, .pointer (some ⟨g2, 0, none⟩))] ⟨rfl, rfl, rfl, trivial⟩ ?_
    exact a.out
  case k =>
    have ok0 : Below w2.heap.size w2 w2.drew := below_drew
    have c1 : ∀ w', Below w2.heap.size w2 w' → w'.cell? ⟨g1, 0, none⟩ = some (.slice a1 S.1.length cp1) := fun w' hw' => (r12.below hw' hg1l).cell rfl
    have c2 : ∀ w', Below w2.heap.size w2 w' → w'.cell? ⟨g1, 1, none⟩ = some (.slice a2 S.2.length cp2) := fun w' hw' => (r12.below hw' hg1l).cell rfl
    have okT : (fun _ : World => True) w2.drew := trivial
    refine CC.free (fun _ => True) (by kernel_rfl) rfl ?_
    (refine AA.pure 0 rfl (by assumption) (by kernel_rfl) (fun w' hw' => R.field rfl rfl (I.fld rfl)) rfl rfl ?_)
    (refine AA.pure 2 rfl (by assumption) (by kernel_rfl) (fun w' hw' => R.move rfl rfl) rfl rfl ?_)
    (refine AA.pure 4 rfl (by assumption) (by kernel_rfl) (fun w' hw' => R.field rfl rfl (I.fld rfl)) rfl rfl ?_)
    (refine AA.pure 6 rfl (by assumption) (by kernel_rfl) (fun w' hw' => R.move rfl rfl) rfl rfl ?_)
    refine AA.split [9, 10, 11] (Below w2.heap.size w2) 5 3 (by kernel_rfl) ?_
    refine AA.pure 1 rfl (by assumption) (by kernel_rfl) (fun w' hw' => R.load rfl rfl (I.ld1 rfl (c1 w' hw'))) rfl rfl ?_
    refine AA.pure 5 rfl (by assumption) (by kernel_rfl) (fun w' hw' => R.load rfl rfl (I.ld1 rfl (c2 w' hw'))) rfl rfl ?_
    refine AA.one 3 (by kernel_rfl) ?_
    refine SR.call rfl (R.call rfl rfl rfl) rfl rfl (rwithout_any _ S.1 n w2.drew (hD2.held.below ok0) (by omega)) ?_
    rintro e w3 ⟨v3, rfl, o3, b3⟩
    have q3 : Below w2.heap.size w2 w3 := ok0.trans (b3.mono (Nat.le_refl _))
    refine ⟨_, rfl, q3, ?_⟩
    (refine AA.pure 8 rfl (by assumption) (by kernel_rfl) (fun w' hw' => R.field rfl rfl (I.fld rfl)) rfl rfl ?_)
    refine AA.one 7 (by kernel_rfl) ?_
    refine SR.call rfl (R.call rfl rfl rfl) rfl rfl (rwithout_any _ S.2 n w3 (hD2.waits.below q3) (by omega)) ?_
    rintro e w4 ⟨v4, rfl, o4, b4⟩
    have q4 : Below w2.heap.size w2 w4 := q3.trans (b4.mono q3.size)
    refine ⟨_, rfl, q4, ?_⟩
    refine AA.done (by kernel_rfl) ?_
    refine EE.splitA ?_
    have o34 := o3.below b4
    have y3 := q3.size
    have y4 := b4.size
    have r14 := r12.below q4 hg1l
    have r24 := r2.below q4 hg2l
    have hy : w2.drew.heap.size = w2.heap.size := rfl
    have f3 := (o34.reads tEnc).form (n := (outP S.1 n).length) rfl
    obtain ⟨a3, cp3, rfl, _⟩ := f3
    obtain ⟨a4, cp4, rfl, _⟩ := (o4.reads tEnc).form (n := (outP S.2 n).length) rfl
    have hl3 : (outP S.1 n).length ≤ S.1.length := List.length_filter_le _ _
    have hl4 : (outP S.2 n).length ≤ S.2.length := List.length_filter_le _ _
    refine AA.one 9 (by kernel_rfl) ?_
    refine SR.store rfl rfl rfl rfl rfl r14 (Nat.le_of_ble_eq_true rfl) rfl rfl rfl rfl ?_
    intro w5 r5 g5 z5
    refine ⟨trivial, ?_⟩
    have okT5 : (fun _ : World => True) w5 := trivial
    (refine AA.pure 10 rfl (by assumption) (by kernel_rfl) (fun w' hw' => R.field rfl rfl (I.fld rfl)) rfl rfl ?_)
    refine AA.one 11 (by kernel_rfl) ?_
    refine SR.store rfl rfl rfl rfl rfl r5 (Nat.le_of_ble_eq_true rfl) rfl rfl rfl rfl ?_
    intro w7 r7 g6 z6
    refine ⟨trivial, ?_⟩
    refine AA.done (by kernel_rfl) ?_
    have g7 : w4.grownBy w7 (some g1) := grown_trans g5 g6
    have r27 : RowL w7 g2 28 [.slice none 0 0, .slice none 0 0] := r24.same (g7.block g2 r24.lt (by simp; omega))
    have q6 : Below w.heap.size w w4 := q2.trans (q4.mono q2.size)
    have q7 : Below w.heap.size w w7 := q6.grown g7 q6.size (by rintro k ⟨⟩; omega)
    have hD7 : DocAt w7 (butK (newer K w w7) g1 g2) (.slice a3 (outP S.1 n).length cp3) (.slice a4 (outP S.2 n).length cp4) (outP S.1 n, outP S.2 n) := by
      have hk : DocAt w4 (butK (newer K w w4) g1 g2) (.slice a3 (outP S.1 n).length cp3) (.slice a4 (outP S.2 n).length cp4) (outP S.1 n, outP S.2 n) :=
        ⟨o34.reads tEnc, o4.reads tEnc, o34.at.less fun j hj => ⟨.inr ⟨by omega, hj.2⟩, by omega, by omega⟩, o4.at.less fun j hj => ⟨.inr ⟨by omega, hj.2⟩, by omega, by omega⟩⟩
      exact (hk.kept (butK_kept hK q6.size g7 (.inl rfl))).less fun j hj => ⟨newer_mono g7.size hj.1, hj.2⟩
    (refine EE.thenN ?_; refine CC.seq ?_; refine CC.region ?_)
    refine LL.val (R.load rfl rfl (I.ldN rfl rfl (r7.cells (vs := [.slice a3 (outP S.1 n).length cp3, .slice a4 (outP S.2 n).length cp4]) rfl))) rfl rfl rfl ?_
    have hk7 : ∀ j, butK (newer K w w7) g1 g2 j → j < w7.heap.size := fun j hj => by
      rcases hj.1 with h | ⟨_, h⟩
      · have := hK j h; have := q7.size; omega
      · exact h
    refine LL.call (R.call rfl rfl rfl) rfl rfl rfl (rgiven_any (S := (outP S.1 n, outP S.2 n)) w7 hD7 hk7 (by simp only; omega)) ?_
    rintro e w8 ⟨xh, xw, rfl, hD8, b8⟩
    refine ⟨_, rfl, ?_⟩
    have r28 := r27.below b8 r27.lt
    obtain ⟨a8, cp8, rfl, _⟩ := hD8.held.form rfl
    obtain ⟨a9, cp9, rfl, _⟩ := hD8.waits.form rfl
    have y7 := q7.size
    have y8 := b8.size
    skip
    refine LL.storeN (vs := [.slice a8 _ cp8, .slice a9 _ cp9]) rfl rfl rfl rfl r28 (Nat.le_of_ble_eq_true rfl) (one2 _ _ rfl rfl) rfl rfl ?_
    intro w9 r9 g9 z9
    have hg27 := r27.lt
    have k9 : Kept (newer (butK (newer K w w7) g1 g2) w7 w8) w8 w9 := grown_kept g9 (fun j hj => by
        rcases hj with h | ⟨_, h⟩
        · have := hk7 j h; omega
        · exact h) fun j hj e => by
        cases e
        rcases hj with h | ⟨h, _⟩
        · exact h.2.2 rfl
        · omega
    have hD9 := (hD8.kept k9).less fun j hj => (show newer K w w9 j by
      have := g9.size
      rcases hj with h | ⟨h, h'⟩
      · exact newer_mono (by omega) h.1
      · exact .inr ⟨by omega, by omega⟩)
    (refine LL.val (R.assign rfl rfl) rfl rfl rfl ?_; refine LL.nilS ?_; refine CC.ret ?_)
    refine EE.ret2 rfl ⟨_, rfl, lvN (vs := [.slice a8 _ cp8, .slice a9 _ cp9]) rfl rfl (r9.cells rfl)⟩ rfl ?_
    exact ⟨_, _, rfl, hD9, (q7.trans (b8.mono y7)).grown g9 (by omega) (by rintro k ⟨⟩; omega)⟩
end Go.Proofs.Ytcchffdnbamkoaa
