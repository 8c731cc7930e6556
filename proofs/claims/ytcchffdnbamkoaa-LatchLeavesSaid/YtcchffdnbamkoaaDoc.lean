/- The document's given. -/
import Derived.Test.YtcchffdnbamkoaaAsk
import Derived.Test.YtcchffdnbamkoaaTNew
import Derived.Test.YtcchffdnbamkoaaRes
import Derived.Test.YtcchffdnbamkoaaPhase
namespace Go.Proofs.Ytcchffdnbamkoaa
set_option linter.unusedVariables false
set_option linter.unusedSimpArgs false
open Go.RowKit Go.Shelf

/-- If it points anywhere, then at a row of K. -/
def At (K : Nat → Prop) (v : Value) : Prop := ∀ (p : Addr) n c, v = .slice (some p) n c → K p.block
/-- The rows of K, and those that came since. -/
def newer (K : Nat → Prop) (w w' : World) : Nat → Prop := fun j => K j ∨ (w.heap.size ≤ j ∧ j < w'.heap.size)
section
variable {K K' : Nat → Prop} {w w' w'' : World} {v uh uw : Value} {S : LS}
theorem At.less (h : At K v) (hk : ∀ j, K j → K' j) : At K' v := fun p n c e => hk _ (h p n c e)
theorem At.none : At K (.slice Option.none 0 0) := fun p n c e => by cases e
theorem OwnsT.at {α : Type} {enc : α → List Value} {k b e : Nat} {ts : List α} (h : OwnsT enc k w b e v ts) : At (fun j => b ≤ j ∧ j < w.heap.size) v := by
  intro p n c ev
  rcases h.2 with ⟨e1, _⟩ | ⟨g, cap, cur, e1, hbg, hg, _⟩
  · rw [e1] at ev; cases ev
  · rw [e1] at ev; cases ev; exact ⟨hbg, (Array.getElem?_eq_some_iff.1 hg).1⟩
theorem ReadsT.kept {α : Type} {enc : α → List Value} {k : Nat} {ts : List α} (h : ReadsT enc k w v ts) (hk : Kept K w w') (ha : At K v) : ReadsT enc k w' v ts := by
  obtain ⟨a, cap, e, hc, h'⟩ := h
  refine ⟨a, cap, e, hc, fun hne => ?_⟩
  obtain ⟨b, off, ha', hlt, hcell⟩ := h' hne
  have hKb : K b := ha ⟨b, off, Option.none⟩ ts.length cap (by rw [e, ha'])
  exact ⟨b, off, ha', Nat.lt_of_lt_of_le hlt hk.size, fun j hj => (World.cell?_of_block (a := ⟨b, off + j, Option.none⟩) (hk.block b hKb)).trans (hcell j hj)⟩
theorem newer_refl {j : Nat} : newer K w w j → K j := fun h => by rcases h with h | ⟨h1, h2⟩; exact h; omega
theorem newer_trans {j : Nat} (h1 : w.heap.size ≤ w'.heap.size) (h2 : w'.heap.size ≤ w''.heap.size) : newer (newer K w w') w' w'' j → newer K w w'' j := fun h => by
  rcases h with (h | ⟨a, b⟩) | ⟨a, b⟩
  · exact .inl h
  · exact .inr ⟨a, by omega⟩
  · exact .inr ⟨by omega, b⟩
theorem newer_mono {j : Nat} (h2 : w'.heap.size ≤ w''.heap.size) : newer K w w' j → newer K w w'' j := fun h => by
  rcases h with h | ⟨a, b⟩
  · exact .inl h
  · exact .inr ⟨a, by omega⟩

/-- The document's latch: two lists. -/
structure DocAt (w : World) (K : Nat → Prop) (uh uw : Value) (S : LS) : Prop where
  held : ReadsTn w uh S.1
  waits : ReadsTn w uw S.2
  ah : At K uh
  aw : At K uw
theorem DocAt.kept (h : DocAt w K uh uw S) (hk : Kept K w w') : DocAt w' K uh uw S := ⟨h.held.kept hk h.ah, h.waits.kept hk h.aw, h.ah, h.aw⟩
theorem DocAt.below (h : DocAt w K uh uw S) (hb : Below w.heap.size w w') : DocAt w' K uh uw S := ⟨h.held.below hb, h.waits.below hb, h.ah, h.aw⟩
theorem DocAt.less (h : DocAt w K uh uw S) (hk : ∀ j, K j → K' j) : DocAt w K' uh uw S := ⟨h.held, h.waits, h.ah.less hk, h.aw.less hk⟩
theorem DocAt.none : DocAt w K (.slice Option.none 0 0) (.slice Option.none 0 0) ([], []) := ⟨ReadsT.nil w, ReadsT.nil w, At.none, At.none⟩
end

/-- All but two rows. -/
def butK (K : Nat → Prop) (g1 g2 : Nat) : Nat → Prop := fun j => K j ∧ j ≠ g1 ∧ j ≠ g2
theorem butK_kept {K : Nat → Prop} {w w' w0 : World} {g1 g2 g : Nat} (hk : ∀ j, K j → j < w0.heap.size) (h0 : w0.heap.size ≤ w.heap.size) (hg : w.grownBy w' (some g)) (h : g = g1 ∨ g = g2) : Kept (butK (newer K w0 w) g1 g2) w w' := by
  refine grown_kept hg (fun j hj => ?_) fun j hj e => ?_
  · rcases hj.1 with h1 | ⟨_, h1⟩
    · have := hk j h1; omega
    · exact h1
  · cases e
    rcases h with h | h
    · exact hj.2.1 h
    · exact hj.2.2 h

set_option maxRecDepth 100000 in
set_option maxHeartbeats 4000000 in
theorem rgiven_any {K : Nat → Prop} {uh uw : Value} {S : LS} (w : World) (h : DocAt w K uh uw S) (hK : ∀ j, K j → j < w.heap.size) (hl : S.1.length + S.2.length ≤ 100) :
    Calls Try.prog 33 #[.agg #[uh, uw]] w fun e w' => ∃ uh' uw', e = .returned (.agg #[uh', uw']) ∧ DocAt w' (newer K w w') uh' uw' (giveP S.1 S.2) ∧ Below w.heap.size w w' := by
  obtain ⟨a1, cp1, rfl, _⟩ := h.held.form rfl
  obtain ⟨a2, cp2, rfl, _⟩ := h.waits.form rfl
  refine X.fn Try.func33 rfl (n := 34) rfl rfl ?_
  (refine CC.seq ?_; refine CC.region ?_)
  refine LL.box [.slice a1 S.1.length cp1, .slice a2 S.2.length cp2] rfl rfl rfl rfl rfl ?_
  intro w1 g1 e1 r1 z1 b1
  refine LL.alloc [.slice none 0 0, .slice none 0 0] rfl rfl rfl rfl rfl ?_
  intro w2 g2 e2 r2 z2 b2
  have y1 := b1.size
  have y2 := b2.size
  have q2 : Below w.heap.size w w2 := b1.trans (b2.mono y1)
  have r12 := r1.below b2 (by omega)
  have hg1 : w.heap.size ≤ g1 := by omega
  have hg2 : w.heap.size ≤ g2 := by omega
  have hg1l := r12.lt
  have hg2l := r2.lt
  (refine LL.nilS ?_; refine CC.seq ?_; refine CC.block ?_)
  refine CC.loop (α := LS × (Value × Value)) (fun q => [(1, .pointer (some ⟨g1, 0, none⟩)), (2, .pointer (some ⟨g2, 0, none⟩))]) (fun q wr => RowL wr g1 28 [q.2.1, q.2.2] ∧ RowL wr g2 28 [.slice none 0 0, .slice none 0 0] ∧ DocAt wr (butK (newer K w wr) g1 g2) q.2.1 q.2.2 q.1 ∧ giveP q.1.1 q.1.2 = giveP S.1 S.2 ∧ q.1.1.length + q.1.2.length ≤ 100 ∧ Below w.heap.size w wr) (fun q => q.1.2.length) (S, (.slice a1 S.1.length cp1, .slice a2 S.2.length cp2)) ⟨rfl, rfl, trivial⟩ ⟨r12, r2, (h.below q2).less fun j hj => ⟨.inl hj, by have := hK j hj; omega, by have := hK j hj; omega⟩, rfl, hl, q2⟩ ?_
  rintro ⟨⟨hs, ws⟩, uh, uw⟩ wr ⟨hr1, hr2, hD, hP, hln, hbw⟩
  simp only at hr1 hD hP hln
  have y := hbw.size
  have hg1r := hr1.lt
  have hg2r := hr2.lt
  obtain ⟨a1, cp1, rfl, _⟩ := hD.held.form (n := hs.length) rfl
  cases ws with
  | nil =>
    obtain ⟨a2, cp2, rfl, _⟩ := hD.waits.form (n := 0) rfl
    have hP2 : giveP hs [] = (hs, []) := by unfold giveP; rfl
    have hr1d := hr1.drew
    (refine CC.seq ?_; refine CC.seq ?_)
    refine CC.quiet (by kernel_rfl) (by kernel_rfl) ?_
    (refine SS.val (R.field rfl rfl (I.fld rfl)) rfl rfl ?_; refine SS.val (R.load rfl rfl (I.ld1 rfl (RowL.cell (by assumption) rfl))) rfl rfl ?_; refine SS.val (R.len rfl rfl rfl rfl) rfl rfl ?_; refine SS.val (R.gtF rfl rfl rfl (by omega)) rfl rfl ?_; refine SS.val (R.move rfl rfl) rfl rfl ?_; refine SS.skip rfl rfl ?_; refine SS.skip rfl rfl ?_; refine SS.skip rfl rfl ?_; refine SS.skip rfl rfl ?_; refine SS.skip rfl rfl ?_; refine SS.skip rfl rfl ?_; refine SS.skip rfl rfl ?_; refine SS.val (R.pick rfl rfl rfl) rfl rfl ?_; refine SS.nilQ ?_)
    (refine EE.thenN ?_; refine CC.no rfl ?_; refine CC.exit ?_; refine EE.thenX ?_; refine EE.thenX ?_; refine EE.inX ?_; refine EE.thenN ?_; refine CC.seq ?_; refine CC.region ?_)
    refine LL.val (R.load rfl rfl (I.ldN rfl rfl (hr1d.cells (vs := [.slice a1 hs.length cp1, .slice a2 0 cp2]) rfl))) rfl rfl rfl ?_
    refine LL.storeN (vs := [.slice a1 hs.length cp1, .slice a2 0 cp2]) rfl rfl rfl rfl hr2.drew (Nat.le_of_ble_eq_true rfl) (by intro u hu; simp at hu; rcases hu with rfl | rfl <;> rfl) rfl rfl ?_
    intro w5 r5 g5 z5
    (refine LL.nilS ?_; refine CC.ret ?_)
    refine EE.retC rfl rfl (lvN (vs := [.slice a1 hs.length cp1, .slice a2 0 cp2]) rfl rfl (r5.cells rfl)) ?_
    have q5 : Below w.heap.size w w5 := hbw.drew.grown g5 y (by rintro k ⟨⟩; omega)
    refine ⟨_, _, rfl, ?_, q5⟩
    rw [← hP, hP2]
    have hD5 := (hD.below below_drew).kept (butK_kept (w := wr.drew) hK y g5 (.inr rfl))
    exact hD5.less fun j hj => newer_mono g5.size hj.1
  | cons t ts =>
    obtain ⟨a2, cp2, rfl, hcp2⟩ := hD.waits.form (n := ts.length + 1) rfl
    simp only [List.length_cons] at hln
    have hr1d := hr1.drew
    have hDd := hD.below below_drew
    obtain ⟨b2, off2, rfl, hb2, hc2⟩ := hDd.waits.get tEnc (i := 0) (t := t) rfl
    (refine CC.seq ?_; refine CC.seq ?_)
    refine CC.tail 11 (by kernel_rfl) (by kernel_rfl) ?_
    (refine SS.val (R.field rfl rfl (I.fld rfl)) rfl rfl ?_; refine SS.val (R.load rfl rfl (I.ld1 rfl (RowL.cell (by assumption) rfl))) rfl rfl ?_; refine SS.val (R.len rfl rfl rfl rfl) rfl rfl ?_; refine SS.val (R.gtT rfl rfl rfl (by omega)) rfl rfl ?_; refine SS.val (R.move rfl rfl) rfl rfl ?_; refine SS.val (R.field rfl rfl (I.fld rfl)) rfl rfl ?_; refine SS.val (R.load rfl rfl (I.ld1 rfl (RowL.cell (by assumption) rfl))) rfl rfl ?_; refine SS.val (R.field rfl rfl (I.fld rfl)) rfl rfl ?_; refine SS.val (R.load rfl rfl (I.ld1 rfl (RowL.cell (by assumption) rfl))) rfl rfl ?_; refine SS.val (R.index rfl rfl rfl (I.ixSc rfl rfl (by omega))) rfl rfl ?_)
    refine SS.val (R.load rfl rfl (I.ldN (vs := tE t) rfl rfl hc2)) rfl rfl ?_
    (refine SS.nil ?_)
    refine LL.call (R.call rfl rfl rfl) rfl rfl rfl (rfree_any _ hs t _ hDd.held (by omega)) ?_
    rintro e w3 ⟨rfl, b3⟩
    refine ⟨_, rfl, ?_⟩
    rw [free_fits]
    have q3 : Below w.heap.size w w3 := hbw.drew.trans (b3.mono y)
    have y3 := b3.size
    have hr13 := hr1d.below b3 hg1r
    have hr23 := hr2.drew.below b3 hg2r
    have hD3 := (hDd.below b3).less fun j (hj : butK (newer K w wr) g1 g2 j) => (⟨newer_mono (K := K) (w := w) y3 hj.1, hj.2⟩ : butK (newer K w w3) g1 g2 j)
    cases hf : fitsP hs t with
    | false =>
      (refine LL.val (R.pick rfl rfl rfl) rfl rfl rfl ?_; refine LL.nilS ?_; refine CC.no rfl ?_; refine CC.exit ?_; refine EE.thenX ?_; refine EE.thenX ?_; refine EE.inX ?_; refine EE.thenN ?_; refine CC.seq ?_; refine CC.region ?_)
      refine LL.val (R.load rfl rfl (I.ldN rfl rfl (hr13.cells (vs := [.slice a1 hs.length cp1, .slice (some ⟨b2, off2, none⟩) (ts.length + 1) cp2]) rfl))) rfl rfl rfl ?_
      refine LL.storeN (vs := [.slice a1 hs.length cp1, .slice (some ⟨b2, off2, none⟩) (ts.length + 1) cp2]) rfl rfl rfl rfl hr23 (Nat.le_of_ble_eq_true rfl) (by intro u hu; simp at hu; rcases hu with rfl | rfl <;> rfl) rfl rfl ?_
      intro w5 r5 g5 z5
      (refine LL.nilS ?_; refine CC.ret ?_)
      refine EE.retC rfl rfl (lvN (vs := [.slice a1 hs.length cp1, .slice (some ⟨b2, off2, none⟩) (ts.length + 1) cp2]) rfl rfl (r5.cells rfl)) ?_
      have q5 : Below w.heap.size w w5 := q3.grown g5 q3.size (by rintro k ⟨⟩; omega)
      refine ⟨_, _, rfl, ?_, q5⟩
      rw [← hP, giveP_stop hf]
      exact (hD3.kept (butK_kept hK q3.size g5 (.inr rfl))).less fun j hj => newer_mono g5.size hj.1
    | true =>
      (refine LL.val (R.pick rfl rfl rfl) rfl rfl rfl ?_; refine LL.nilS ?_; refine CC.yes rfl ?_; refine CC.skip ?_; refine EE.thenN ?_; refine CC.block ?_; refine CC.seq ?_)
      have ok0 : Below w3.heap.size w3 w3.drew := below_drew
      have c1 : ∀ w', Below w3.heap.size w3 w' → w'.cell? ⟨g1, 0, none⟩ = some (.slice a1 hs.length cp1) := fun w' hw' => (hr13.below hw' hr13.lt).cell rfl
      have c2 : ∀ w', Below w3.heap.size w3 w' → w'.cell? ⟨g1, 1, none⟩ = some (.slice (some ⟨b2, off2, none⟩) (ts.length + 1) cp2) := fun w' hw' => (hr13.below hw' hr13.lt).cell rfl
      have c3 : ∀ w', Below w3.heap.size w3 w' → Cells w' ⟨b2, off2 + 0 * 2, none⟩ (tE t) := fun w' hw' => (hc2.below b3 hb2).below hw' (Nat.lt_of_lt_of_le hb2 b3.size)
      refine CC.phase (Below w3.heap.size w3) 10 (by kernel_rfl) rfl (by kernel_rfl) rfl (by kernel_rfl) ?_
      (refine AA.pure 1 rfl (by assumption) (by kernel_rfl) (fun w' hw' => R.field rfl rfl (I.fld rfl)) rfl rfl ?_)
      refine AA.pure 2 rfl (by assumption) (by kernel_rfl) (fun w' hw' => R.load rfl rfl (I.ld1 rfl (c1 w' hw'))) rfl rfl ?_
      (refine AA.pure 4 rfl (by assumption) (by kernel_rfl) (fun w' hw' => R.field rfl rfl (I.fld rfl)) rfl rfl ?_)
      refine AA.pure 5 rfl (by assumption) (by kernel_rfl) (fun w' hw' => R.load rfl rfl (I.ld1 rfl (c2 w' hw'))) rfl rfl ?_
      (refine AA.pure 6 rfl (by assumption) (by kernel_rfl) (fun w' hw' => R.index rfl rfl rfl (I.ixSc rfl rfl (by omega))) rfl rfl ?_)
      refine AA.pure 7 rfl (by assumption) (by kernel_rfl) (fun w' hw' => R.load rfl rfl (I.ldN (vs := tE t) rfl rfl (c3 w' hw'))) rfl rfl ?_
      refine AA.mesh (L := [(1, .pointer (some ⟨g1, 0, none⟩)), (2, .pointer (some ⟨g2, 0, none⟩)), (18, .slice a1 hs.length cp1), (23, .agg (tE t).toArray)]) (fun w w' => Below w.heap.size w w') [0, 3, 8] (fun i v w' => (i = 0 → ∃ g', v = .slice (some ⟨g', 0, none⟩) 0 0 ∧ OwnsT tE 2 w' w3.heap.size 51 v []) ∧ (i = 3 → OwnsT tE 2 w' w3.heap.size 51 v hs) ∧ (i = 8 → ReadsTn w' v [t])) 3 1 #[true, true, true, true, true, true, true, true, true, false, true, true] ⟨rfl, rfl, rfl, rfl, trivial⟩ (by kernel_rfl) (by kernel_rfl) (by kernel_rfl) (by kernel_rfl) (by kernel_rfl) ok0 ?_ ?_ ?_
      · rintro j v wa wb ⟨h0, h3, h8⟩ hb
        refine ⟨fun e => ?_, fun e => (h3 e).below hb, fun e => (h8 e).below hb⟩
        obtain ⟨g', e', ho⟩ := h0 e
        exact ⟨g', e', ho.below hb⟩
      · intro i hi wa hwa
        simp only [List.mem_cons, List.not_mem_nil, or_false] at hi
        rcases hi with rfl | rfl | rfl
        · refine MS.lit (e := 51) [] 0 rfl rfl rfl (fun _ => by kernel_rfl) rfl ?_
          intro wb g' eg rg bb
          have hge : w3.heap.size ≤ g' := by rw [eg]; exact hwa.size
          exact ⟨hwa.trans (bb.mono hwa.size), bb, fun _ => ⟨g', rfl, RowL.ownsT (ts := []) tEnc rg hge (by simp [maxLen])⟩, (fun e => by cases e), (fun e => by cases e)⟩
        · refine MS.dep 0 (by kernel_rfl) (by kernel_rfl) rfl ?_
          rintro v0 ⟨h0, _, _⟩
          obtain ⟨g', rfl, ho⟩ := h0 rfl
          refine MS.append0 (us := hs) rfl rfl rfl tEnc ElTurn ho ((hD3.held.below hwa)) (by simp only [maxLen]; omega) (by omega) hwa.size rfl ?_
          intro v' wb ob bb
          exact ⟨hwa.trans (bb.mono hwa.size), bb, (fun e => by cases e), fun _ => ob, (fun e => by cases e)⟩
        · refine MS.lit (e := 51) (tE t) 1 rfl rfl rfl (fun _ => by kernel_rfl) rfl ?_
          intro wb g' eg rg bb
          exact ⟨hwa.trans (bb.mono hwa.size), bb, (fun e => by cases e), (fun e => by cases e), fun _ => RowL.readsT (ts := [t]) tEnc (by simpa using rg) 1 (by simp)⟩
      · intro w4 hw4 vs hvs
        have o19 := (hvs 3 (by simp)).2.1 rfl
        have o24 := (hvs 8 (by simp)).2.2 rfl
        refine AA.weak (L := [(1, .pointer (some ⟨g1, 0, none⟩)), (2, .pointer (some ⟨g2, 0, none⟩)), (19, vs 3), (24, vs 8)]) ?_ ⟨rfl, rfl, rfl, rfl, trivial⟩ rfl
        have y4 := hw4.size
        have hg13 := hr13.lt
        have hg23 := hr23.lt
        have hr14 := hr13.below hw4 hr13.lt
        have hr24 := hr23.below hw4 hr23.lt
        have hD4 := hD3.below hw4
        refine AA.one 9 (by kernel_rfl) ?_
        refine SR.appendT2 rfl rfl rfl tEnc ElTurn o19 o24 (by simp only [List.length_singleton, maxLen]; omega) (by simp only [List.length_singleton]; omega) y4 rfl rfl ?_
        intro v5 w5 o5 g5 hwhere
        have b5 : Below w3.heap.size w3 w5 := hw4.trans ((o19.bel g5 y4).mono (Nat.le_refl _))
        refine ⟨b5, ?_⟩
        have hr15 := hr13.below b5 hr13.lt
        have hr25 := hr23.below b5 hr23.lt
        obtain ⟨a5, cp5, rfl, _⟩ := (o5.reads tEnc).form rfl
        have hat5 := o5.at
        have hne5 : ∀ j, j < w3.heap.size → (Value.slice a5 (hs ++ [t]).length cp5).ownBlock ≠ some j := by
          intro j hj
          rcases o5.above with h0 | ⟨b, h0, h1, _⟩
          · rw [h0]; simp
          · rw [h0]; intro e; cases e; omega
        refine AA.done (by kernel_rfl) ?_
        refine EE.tailL ?_
        (refine LL.val (R.field rfl rfl (I.fld rfl)) rfl rfl rfl ?_)
        refine LL.store rfl rfl rfl rfl hr15 (Nat.le_of_ble_eq_true rfl) rfl rfl rfl rfl ?_
        intro w6 r6 g6 z6
        have y5 := b5.size
        have y6 := g6.size
        have o6 := o5.grown g6 (hne5 g1 hr13.lt)
        have hr26 : RowL w6 g2 28 [.slice none 0 0, .slice none 0 0] := hr25.same (g6.block g2 hr25.lt (by simp; omega))
        have hw6 : ReadsTn w6 (.slice (some ⟨b2, off2, none⟩) (ts.length + 1) cp2) (t :: ts) := (hD3.waits.below b5).grown g6 (by
          intro x n c e hn
          cases e
          exact (hD3.aw ⟨b2, off2, none⟩ _ _ rfl).2.1)
        have hfrom := hw6.from tEnc (m := 1) (by omega)
        (refine LL.nilS ?_; refine CC.region ?_)
        refine LL.lit (e := 51) [] 0 rfl rfl (fun _ => by kernel_rfl) rfl rfl ?_
        intro w7 g7 e7 r7 z7 b7
        have r67 := r6.below b7 r6.lt
        (refine LL.val (R.field rfl rfl (I.fld rfl)) rfl rfl rfl ?_; refine LL.val (R.load rfl rfl (I.ld1 rfl (RowL.cell (by assumption) rfl))) rfl rfl rfl ?_)
        refine LL.val (R.slice rfl rfl rfl rfl rfl (slAt_sl rfl (run_from_t ElTurn _ (ts.length + 1) cp2 1 (by omega) _))) rfl rfl rfl ?_
        refine LL.append0 (base := w6.heap.size) rfl rfl tEnc ElTurn (RowL.ownsT (ts := []) tEnc r7 (by omega) (by simp [maxLen])) (hfrom.below b7) (by simp [maxLen]; omega) (by simp; omega) b7.size rfl rfl ?_
        intro v8 w8 o8 b8
        have r68 := r67.below b8 r67.lt
        obtain ⟨a8, cp8, rfl, _⟩ := (o8.reads tEnc).form rfl
        (refine LL.val (R.field rfl rfl (I.fld rfl)) rfl rfl rfl ?_)
        refine LL.store rfl rfl rfl rfl r68 (Nat.le_of_ble_eq_true rfl) rfl rfl rfl rfl ?_
        intro w9 r9 g9 z9
        have y7 := b7.size
        have y8 := b8.size
        have y9 := g9.size
        have y3' := q3.size
        have hne8 : (Value.slice a8 ((t :: ts).drop 1).length cp8).ownBlock ≠ some g1 := by
          rcases o8.above with h0 | ⟨b, h0, h1, _⟩
          · rw [h0]; simp
          · rw [h0]; intro e; cases e; omega
        have o9 := o8.grown g9 hne8
        have o69 := ((o6.below b7).below b8).grown g9 (hne5 g1 hr13.lt)
        have hr29 : RowL w9 g2 28 [.slice none 0 0, .slice none 0 0] := ((hr26.below b7 hr26.lt).below b8 (by have := hr26.lt; omega)).same (g9.block g2 (by have := hr26.lt; omega) (by simp; omega))
        have q9 : Below w.heap.size w w9 := (((q3.trans (b5.mono q3.size)).grown g6 (by omega) (by rintro k ⟨⟩; omega)).trans ((b7.mono (by omega)).trans (b8.mono (by omega)))).grown g9 (by omega) (by rintro k ⟨⟩; omega)
        (refine LL.nil ?_; refine EE.inN ?_)
        refine EE.round (p := ((hs, t :: ts), (.slice a1 hs.length cp1, .slice (some ⟨b2, off2, none⟩) (ts.length + 1) cp2))) ((hs ++ [t], ts), (.slice a5 (hs ++ [t]).length cp5, .slice a8 ((t :: ts).drop 1).length cp8)) ⟨rfl, rfl, trivial⟩ ⟨r9, hr29, ⟨o69.reads tEnc, o9.reads tEnc, ?_, ?_⟩, (giveP_step hf).trans hP, by simp; omega, q9⟩ (by simp)
        · refine o5.at.less fun j hj => ⟨.inr ⟨by omega, by omega⟩, by omega, by omega⟩
        · refine o8.at.less fun j hj => ⟨.inr ⟨by omega, by omega⟩, by omega, by omega⟩
end Go.Proofs.Ytcchffdnbamkoaa
