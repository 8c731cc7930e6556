/- Copy; which latches are the same; the statements' played. -/
import Derived.Test.YtcchffdnbamkoaaIs
namespace Go.Proofs.Ytcchffdnbamkoaa
set_option linter.unusedVariables false
set_option linter.unusedSimpArgs false
open Go.RowKit Go.Shelf

theorem laL_one {vh vw : Value} {cl : List Nat} (h1 : vh.oneCell' = true) (h2 : vw.oneCell' = true) : ∀ u ∈ laL vh vw cl, u.oneCell' = true := by
  intro u hu
  unfold laL at hu
  simp only [List.mem_append, List.mem_cons, List.not_mem_nil, or_false, List.mem_map] at hu
  rcases hu with ((rfl | rfl) | ⟨c, _, rfl⟩) | rfl
  · exact h1
  · exact h2
  · rfl
  · rfl

theorem lcopy_nil (w : World) : Calls Try.prog 11 #[.pointer none] w fun e w' => e = .returned (.pointer none) ∧ w = w' := by
  refine X.fn Try.func11 rfl (n := 23) rfl rfl ?_
  (refine CC.seq ?_; refine CC.region ?_; refine LL.val (R.assign rfl rfl) rfl rfl rfl ?_; refine LL.nilS ?_; refine CC.seq ?_; refine CC.seq ?_; refine CC.region ?_; refine LL.val (R.move rfl rfl) rfl rfl rfl ?_)
  refine LL.call (R.call rfl rfl rfl) rfl rfl rfl (lnone_nil _) ?_
  rintro e w1 ⟨rfl, rfl⟩
  refine ⟨_, rfl, ?_⟩
  (refine LL.nilS ?_; refine CC.yes rfl ?_; refine CC.seq ?_; refine CC.region ?_; refine LL.val (R.assign rfl rfl) rfl rfl rfl ?_; refine LL.nilS ?_; refine CC.ret ?_; refine EE.thenR ?_)
  refine EE.ret _ rfl rfl ?_
  exact ⟨rfl, rfl⟩

set_option maxRecDepth 100000 in
set_option maxHeartbeats 4000000 in
theorem lcopy_any {K : Nat → Prop} {g : Nat} {vh vw : Value} {S : LS} (w : World) (h : LatchAt w K g vh vw (clP S) S.1 S.2) (hS : Good S) :
    Calls Try.prog 11 #[.pointer (some ⟨g, 0, none⟩)] w fun e w' => ∃ g' vh' vw', e = .returned (.pointer (some ⟨g', 0, none⟩)) ∧ LatchAt w' (· < w.heap.size) g' vh' vw' (clP S) S.1 S.2 ∧ w.heap.size ≤ g' ∧ Below w.heap.size w w' := by
  have hl8 := hS.len
  have hgl := h.row.lt
  obtain ⟨a1, cp1, rfl, _⟩ := (h.held.reads tEnc).form (n := S.1.length) rfl
  obtain ⟨a2, cp2, rfl, _⟩ := (h.waits.reads tEnc).form (n := S.2.length) rfl
  have hlen : (laL (.slice a1 S.1.length cp1) (.slice a2 S.2.length cp2) (clP S)).length = 11 := laL_len h.len
  have hzero : (Value.agg (laL (.slice none 0 0) (.slice none 0 0) [0, 0, 0, 0, 0, 0, 0, 0]).toArray) = .agg (laL (.slice none 0 0) (.slice none 0 0) [0, 0, 0, 0, 0, 0, 0, 0]).toArray := rfl
  refine X.fn Try.func11 rfl (n := 23) rfl rfl ?_
  (refine CC.seq ?_; refine CC.region ?_; refine LL.val (R.assign rfl rfl) rfl rfl rfl ?_; refine LL.nilS ?_; refine CC.seq ?_; refine CC.seq ?_; refine CC.region ?_; refine LL.val (R.move rfl rfl) rfl rfl rfl ?_)
  refine LL.call (R.call rfl rfl rfl) rfl rfl rfl (lnone_made g _ _ _ _ h.len h.row) ?_
  rintro e w1 ⟨rfl, rfl⟩
  refine ⟨_, rfl, ?_⟩
  (refine LL.nilS ?_; refine CC.no rfl ?_; refine CC.skip ?_; refine EE.thenN ?_; refine CC.seq ?_; refine CC.region ?_; refine LL.val (R.move rfl rfl) rfl rfl rfl ?_; refine LL.val (R.nil rfl rfl) rfl rfl rfl ?_)
  refine LL.val (R.load rfl rfl (I.ldN (vs := laL (.slice a1 S.1.length cp1) (.slice a2 S.2.length cp2) (clP S)) rfl (by rw [hlen]; rfl) (h.row.cells (by rw [List.drop_zero, hlen, ← hlen, List.take_length])))) rfl rfl rfl ?_
  refine LL.alloc (v := .agg #[.slice none 0 0, .slice none 0 0, .int .i64 0, .int .i64 0, .int .i64 0, .int .i64 0, .int .i64 0, .int .i64 0, .int .i64 0, .int .i64 0, .bool false]) [.slice none 0 0, .slice none 0 0, .int .i64 0, .int .i64 0, .int .i64 0, .int .i64 0, .int .i64 0, .int .i64 0, .int .i64 0, .int .i64 0, .bool false] rfl (by kernel_rfl) rfl rfl rfl ?_
  intro w2 g2 e2 r2 z2 b2
  skip
  refine LL.storeN (vs := laL (.slice a1 S.1.length cp1) (.slice a2 S.2.length cp2) (clP S)) rfl rfl rfl (by rw [hlen]; rfl) r2 (by rw [hlen]; exact Nat.le_of_ble_eq_true rfl) (laL_one rfl rfl) rfl rfl ?_
  intro w3 r3 g3 z3
  have e3 : ([.slice none 0 0, .slice none 0 0, .int .i64 0, .int .i64 0, .int .i64 0, .int .i64 0, .int .i64 0, .int .i64 0, .int .i64 0, .int .i64 0, .bool false] : List Value).drop (0 + (laL (.slice a1 S.1.length cp1) (.slice a2 S.2.length cp2) (clP S)).length) = [] := by rw [hlen]; rfl
  rw [e3, List.append_nil, List.take_zero, List.nil_append] at r3
  have q3 : Below w.heap.size w w3 := b2.grown g3 (by omega) (by rintro k ⟨⟩; omega)
  have hL3 := h.below q3
  have y3 := q3.size
  have hg2l := r3.lt
  (refine LL.nilS ?_; refine CC.seq ?_)
  have ok0 : Below w.heap.size w w3.drew := q3.drew
  have c1 : ∀ w', Below w.heap.size w w' → w'.cell? ⟨g, 0, none⟩ = some (.slice a1 S.1.length cp1) := fun w' hw' => (h.row.below hw' hgl).cell rfl
  have c2 : ∀ w', Below w.heap.size w w' → w'.cell? ⟨g, 1, none⟩ = some (.slice a2 S.2.length cp2) := fun w' hw' => (h.row.below hw' hgl).cell rfl
  refine CC.free (Below w.heap.size w) (by kernel_rfl) rfl ?_
  (refine AA.pure 0 rfl (by assumption) (by kernel_rfl) (fun w' hw' => R.move rfl rfl) rfl rfl ?_)
  (refine AA.pure 1 rfl (by assumption) (by kernel_rfl) (fun w' hw' => R.nil rfl rfl) rfl rfl ?_)
  (refine AA.pure 2 rfl (by assumption) (by kernel_rfl) (fun w' hw' => R.field rfl rfl (I.fld rfl)) rfl rfl ?_)
  (refine AA.pure 3 rfl (by assumption) (by kernel_rfl) (fun w' hw' => R.field rfl rfl (I.fld rfl)) rfl rfl ?_)
  refine AA.pure 4 rfl (by assumption) (by kernel_rfl) (fun w' hw' => R.load rfl rfl (I.ld1 rfl (c1 w' hw'))) rfl rfl ?_
  (refine AA.pure 6 rfl (by assumption) (by kernel_rfl) (fun w' hw' => R.move rfl rfl) rfl rfl ?_)
  (refine AA.pure 7 rfl (by assumption) (by kernel_rfl) (fun w' hw' => R.nil rfl rfl) rfl rfl ?_)
  (refine AA.pure 8 rfl (by assumption) (by kernel_rfl) (fun w' hw' => R.field rfl rfl (I.fld rfl)) rfl rfl ?_)
  refine AA.pure 9 rfl (by assumption) (by kernel_rfl) (fun w' hw' => R.load rfl rfl (I.ld1 rfl (c2 w' hw'))) rfl rfl ?_
  refine AA.one 5 (by kernel_rfl) ?_
  refine SR.call rfl (R.call rfl rfl rfl) rfl rfl (clone_any _ S.1 w3.drew ((h.held.reads tEnc).below ok0) (by omega)) ?_
  rintro e w4 ⟨v4, rfl, o4, b4⟩
  have q4 : Below w.heap.size w w4 := ok0.trans (b4.mono ok0.size)
  have y4 := b4.size
  have hy : w3.drew.heap.size = w3.heap.size := rfl
  refine ⟨_, rfl, q4, ?_⟩
  refine AA.one 10 (by kernel_rfl) ?_
  refine SR.call rfl (R.call rfl rfl rfl) rfl rfl (clone_any _ S.2 w4 ((h.waits.reads tEnc).below q4) (by omega)) ?_
  rintro e w5 ⟨v5, rfl, o5, b5⟩
  have q5 : Below w.heap.size w w5 := q4.trans (b5.mono q4.size)
  have y5 := b5.size
  refine ⟨_, rfl, q5, ?_⟩
  (refine AA.pure 11 rfl (by assumption) (by kernel_rfl) (fun w' hw' => R.field rfl rfl (I.fld rfl)) rfl rfl ?_)
  (refine AA.pure 12 rfl (by assumption) (by kernel_rfl) (fun w' hw' => R.field rfl rfl (I.fld rfl)) rfl rfl ?_)
  have r35 : RowL w5 g2 60 (laL (.slice a1 S.1.length cp1) (.slice a2 S.2.length cp2) (clP S)) := ((drew_row r3).below b4 (by omega)).below b5 (by omega)
  have o45 := o4.below b5
  obtain ⟨a4, cp4, rfl, _⟩ := (o45.reads tEnc).form (n := S.1.length) rfl
  obtain ⟨a5, cp5, rfl, _⟩ := (o5.reads tEnc).form (n := S.2.length) rfl
  refine AA.one 13 (by kernel_rfl) ?_
  refine SR.store rfl rfl rfl rfl rfl r35 (by rw [hlen]; exact Nat.le_of_ble_eq_true rfl) rfl rfl rfl rfl ?_
  intro w6 r6 g6 z6
  have q6 : Below w.heap.size w w6 := q5.grown g6 q5.size (by rintro k ⟨⟩; omega)
  refine ⟨q6, ?_⟩
  (refine AA.pure 14 rfl (by assumption) (by kernel_rfl) (fun w' hw' => R.field rfl rfl (I.fld rfl)) rfl rfl ?_)
  refine AA.one 15 (by kernel_rfl) ?_
  refine SR.store rfl rfl rfl rfl rfl r6 (by rw [List.length_set, hlen]; exact Nat.le_of_ble_eq_true rfl) rfl rfl rfl rfl ?_
  intro w7 r7 g7 z7
  have q7 : Below w.heap.size w w7 := q6.grown g7 q6.size (by rintro k ⟨⟩; omega)
  refine ⟨q7, ?_⟩
  refine AA.done (by kernel_rfl) ?_
  have hne4 : (Value.slice a4 S.1.length cp4).ownBlock ≠ some g2 := by
    rcases o4.above with h0 | ⟨b, h0, h1, _⟩
    · rw [h0]; simp
    · rw [h0]; intro e; cases e; omega
  have hne5 : (Value.slice a5 S.2.length cp5).ownBlock ≠ some g2 := by
    rcases o5.above with h0 | ⟨b, h0, h1, _⟩
    · rw [h0]; simp
    · rw [h0]; intro e; cases e; omega
  have hdis : ∀ b, (Value.slice a4 S.1.length cp4).ownBlock = some b → (Value.slice a5 S.2.length cp5).ownBlock ≠ some b := by
    intro b hb hb2
    rcases o4.above with h0 | ⟨b', h0, _, h1⟩
    · rw [h0] at hb; cases hb
    · rcases o5.above with h2 | ⟨b2, h2, h3, _⟩
      · rw [h2] at hb2; cases hb2
      · rw [h0] at hb; rw [h2] at hb2; cases hb; cases hb2; omega
  have o47 := (o45.grown g6 hne4).grown g7 hne4
  have o57 := (o5.grown g6 hne5).grown g7 hne5
  have y7 := q7.size
  (refine EE.thenN ?_; refine CC.seq ?_; refine CC.region ?_; refine LL.val (R.assign rfl rfl) rfl rfl rfl ?_; refine LL.nilS ?_; refine CC.ret ?_)
  refine EE.ret _ rfl rfl ?_
  refine ⟨g2, _, _, rfl, ⟨r7, h.len, o47.lower (by omega), o57.lower (by omega), hne4, hne5, hdis, fun j hj => by omega, by omega, fun j hj => ?_, fun j hj => ?_⟩, by omega, q7⟩
  · rcases o4.above with h0 | ⟨b, h0, h1, _⟩
    · rw [h0]; simp
    · rw [h0]; intro e; cases e; omega
  · rcases o5.above with h0 | ⟨b, h0, h1, _⟩
    · rw [h0]; simp
    · rw [h0]; intro e; cases e; omega
end Go.Proofs.Ytcchffdnbamkoaa
