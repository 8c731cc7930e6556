/- give: turns are given till the first one that can't get it. -/
import Derived.Test.YtcchffdnbamkoaaDelF
import Derived.Test.YtcchffdnbamkoaaTNew
namespace Go.Proofs.Ytcchffdnbamkoaa
set_option linter.unusedVariables false
set_option linter.unusedSimpArgs false
open Go.RowKit Go.Shelf

section
variable {w w1 w2 : World} {K : Nat → Prop} {g : Nat} {vh vw v' : Value} {cl : List Nat} {hs ws ts : List Tn}
theorem LatchAt.setCl (h : LatchAt w K g vh vw cl hs ws) {c x : Nat} (hc : c < 8) (r : RowL w1 g 60 ((laL vh vw cl).set (2 + c) (.int .i64 (x : Int)))) (gr : w.grownBy w1 (some g)) : LatchAt w1 K g vh vw (cl.set c x) hs ws ∧ Kept K w w1 := by
  rw [laL_set x (by rw [h.len]; exact hc)] at r
  exact ⟨⟨r, by rw [List.length_set]; exact h.len, h.held.grown gr h.gh, h.waits.grown gr h.gw, h.gh, h.gw, h.hw, fun j hj => Nat.lt_of_lt_of_le (h.kl j hj) gr.size, h.kg, h.kh, h.kw⟩, grown_kept gr h.kl fun j hj e => h.kg (by cases e; exact hj)⟩
theorem new_ne {v v' u : Value} {b0 e : Nat} {us : List Tn} (hv : v'.ownBlock = v.ownBlock ∨ ∃ b, v'.ownBlock = some b ∧ w.heap.size ≤ b) (hu : OwnsT tE 2 w b0 e u us) (h : ∀ b, v.ownBlock = some b → u.ownBlock ≠ some b) : ∀ b, v'.ownBlock = some b → u.ownBlock ≠ some b := by
  intro b hb
  rcases hv with e1 | ⟨b', e1, hlt⟩
  · exact h b (e1.symm.trans hb)
  · rcases hu.above with h0 | ⟨b4, h0, _, h1⟩
    · rw [h0]; simp
    · rw [h0]; intro e2; rw [e1] at hb; cases hb; cases e2; omega
theorem LatchAt.setW (h : LatchAt w K g vh vw cl hs ws) (o : OwnsT tE 2 w1 0 51 v' ts) (hv : v'.ownBlock = vw.ownBlock ∨ ∃ b, v'.ownBlock = some b ∧ w.heap.size ≤ b) (gr : w.grownBy w1 vw.ownBlock) (r : RowL w2 g 60 ((laL vh vw cl).set 1 v')) (g2 : w1.grownBy w2 (some g)) : LatchAt w2 K g vh v' cl hs ts ∧ Kept K w w2 := by
  have hgl := h.row.lt
  have hvg : v'.ownBlock ≠ some g := by
    rcases hv with e | ⟨b, e, hb⟩
    · rw [e]; exact h.gw
    · rw [e]; intro e2; cases e2; omega
  have hh1 : OwnsT tE 2 w1 0 51 vh hs := h.held.grownO gr fun b hb hb2 => h.hw b hb2 hb
  have y1 := gr.size
  have k1 : Kept K w w1 := grown_kept gr h.kl h.kw
  have k2 : Kept K w1 w2 := grown_kept g2 (fun j hj => Nat.lt_of_lt_of_le (h.kl j hj) y1) fun j hj e => h.kg (by cases e; exact hj)
  refine ⟨⟨r, h.len, hh1.grown g2 h.gh, o.grown g2 hvg, h.gh, hvg, fun b hb hb2 => ?_, fun j hj => Nat.lt_of_lt_of_le (h.kl j hj) (Nat.le_trans y1 g2.size), h.kg, h.kh, fun j hj => ?_⟩, k1.trans k2⟩
  · exact new_ne hv h.held (fun b hb hb2 => h.hw b hb2 hb) b hb2 hb
  · rcases hv with e | ⟨b, e, hb⟩
    · rw [e]; exact h.kw j hj
    · rw [e]; intro e2; cases e2; have := h.kl _ hj; omega
theorem LatchAt.setH (h : LatchAt w K g vh vw cl hs ws) (o : OwnsT tE 2 w1 0 51 v' ts) (hv : v'.ownBlock = vh.ownBlock ∨ ∃ b, v'.ownBlock = some b ∧ w.heap.size ≤ b) (gr : w.grownBy w1 vh.ownBlock) (r : RowL w2 g 60 ((laL vh vw cl).set 0 v')) (g2 : w1.grownBy w2 (some g)) : LatchAt w2 K g v' vw cl ts ws ∧ Kept K w w2 := by
  have hgl := h.row.lt
  have hvg : v'.ownBlock ≠ some g := by
    rcases hv with e | ⟨b, e, hb⟩
    · rw [e]; exact h.gh
    · rw [e]; intro e2; cases e2; omega
  have hw1 : OwnsT tE 2 w1 0 51 vw ws := h.waits.grownO gr h.hw
  have y1 := gr.size
  have k1 : Kept K w w1 := grown_kept gr h.kl h.kh
  have k2 : Kept K w1 w2 := grown_kept g2 (fun j hj => Nat.lt_of_lt_of_le (h.kl j hj) y1) fun j hj e => h.kg (by cases e; exact hj)
  refine ⟨⟨r, h.len, o.grown g2 hvg, hw1.grown g2 h.gw, hvg, h.gw, fun b hb => ?_, fun j hj => Nat.lt_of_lt_of_le (h.kl j hj) (Nat.le_trans y1 g2.size), h.kg, fun j hj => ?_, h.kw⟩, k1.trans k2⟩
  · exact new_ne hv h.waits h.hw b hb
  · rcases hv with e | ⟨b, e, hb⟩
    · rw [e]; exact h.kh j hj
    · rw [e]; intro e2; cases e2; have := h.kl _ hj; omega
end

theorem giveP_step {hs ts : List Tn} {t : Tn} (h : fitsP hs t = true) : giveP (hs ++ [t]) ts = giveP hs (t :: ts) := by
  conv => rhs; unfold giveP
  rw [if_pos h]
theorem giveP_stop {hs ts : List Tn} {t : Tn} (h : fitsP hs t = false) : giveP hs (t :: ts) = (hs, t :: ts) := by
  conv => lhs; unfold giveP
  rw [if_neg (by rw [h]; simp)]

set_option maxRecDepth 100000 in
set_option maxHeartbeats 4000000 in
theorem give_any {K : Nat → Prop} {g : Nat} {vh vw : Value} {S : LS} (w : World) (h : LatchAt w K g vh vw (clP S) S.1 S.2) (hS : Good S) :
    Calls Try.prog 29 #[.pointer (some ⟨g, 0, none⟩)] w fun e w' => e = .returned (.tuple #[]) ∧ ∃ vh' vw', LatchAt w' K g vh' vw' (clP (giveP S.1 S.2)) (giveP S.1 S.2).1 (giveP S.1 S.2).2 ∧ Kept K w w' := by
  refine X.fn Try.func29 rfl (n := 51) rfl rfl ?_
  refine CC.jumps (α := LS × (Value × Value)) (fun q => [(0, .pointer (some ⟨g, 0, none⟩))]) (fun q wr => LatchAt wr K g q.2.1 q.2.2 (clP q.1) q.1.1 q.1.2 ∧ Good q.1 ∧ giveP q.1.1 q.1.2 = giveP S.1 S.2 ∧ Kept K w wr) (fun q => q.1.2.length) (S, (vh, vw)) ⟨rfl, trivial⟩ ⟨h, hS, rfl, Kept.refl _ _⟩ ?_
  rintro ⟨⟨hs, ws⟩, uh, uw⟩ wr ⟨hL, hG, hP, hK⟩
  simp only at hL hG hP
  have hl8 := hG.len
  simp only at hl8
  cases ws with
  | nil =>
    obtain ⟨a, cap, rfl, _⟩ := (hL.waits.reads tEnc).form (n := 0) rfl
    have c1 : wr.drew.cell? ⟨g, 1, none⟩ = some (.slice a 0 cap) := hL.row.cell rfl
    have hP2 : giveP hs [] = (hs, []) := by unfold giveP; rfl
    (refine CC.seq ?_; refine CC.seq ?_)
    refine CC.quiet (by kernel_rfl) (by kernel_rfl) ?_
    (refine SS.val (R.move rfl rfl) rfl rfl ?_; refine SS.val (R.nil rfl rfl) rfl rfl ?_; refine SS.val (R.field rfl rfl (I.fld rfl)) rfl rfl ?_; refine SS.val (R.load rfl rfl (I.ld1 rfl (by assumption))) rfl rfl ?_; refine SS.val (R.len rfl rfl rfl rfl) rfl rfl ?_; refine SS.val (R.eqT rfl rfl rfl (by omega)) rfl rfl ?_; refine SS.val (R.move rfl rfl) rfl rfl ?_; refine SS.skip rfl rfl ?_; refine SS.skip rfl rfl ?_; refine SS.skip rfl rfl ?_; refine SS.skip rfl rfl ?_; refine SS.skip rfl rfl ?_; refine SS.skip rfl rfl ?_; refine SS.skip rfl rfl ?_; refine SS.skip rfl rfl ?_; refine SS.skip rfl rfl ?_; refine SS.skip rfl rfl ?_; refine SS.skip rfl rfl ?_; refine SS.val (R.pick rfl rfl rfl) rfl rfl ?_; refine SS.nilQ ?_)
    (refine EE.thenN ?_; refine CC.yes rfl ?_; refine CC.ret ?_; refine EE.thenR ?_)
    refine EE.jumpR ?_
    refine EE.ret _ rfl rfl ?_
    rw [← hP, hP2]
    exact ⟨rfl, _, _, hL.below below_drew, hK.trans (bkept below_drew hL.kl)⟩
  | cons t ts =>
    rcases hL.waits.block with ⟨_, e0⟩ | ⟨b, cap, e1, hcap, _, hbl⟩
    · cases e0
    subst e1
    have ht8 : t.1 < 8 := hG.lt t (by simp)
    simp only [List.length_cons] at hcap hl8
    have hLd := hL.below below_drew
    have c1 : wr.drew.cell? ⟨g, 1, none⟩ = some (.slice (some ⟨b, 0, none⟩) (ts.length + 1) cap) := hLd.row.cell rfl
    obtain ⟨b', off', e2, _, hc1⟩ := (hLd.waits.reads tEnc).get tEnc (i := 0) (t := t) rfl
    cases e2
    (refine CC.seq ?_; refine CC.seq ?_)
    refine CC.tail 16 (by kernel_rfl) (by kernel_rfl) ?_
    (refine SS.val (R.move rfl rfl) rfl rfl ?_; refine SS.val (R.nil rfl rfl) rfl rfl ?_; refine SS.val (R.field rfl rfl (I.fld rfl)) rfl rfl ?_; refine SS.val (R.load rfl rfl (I.ld1 rfl (by assumption))) rfl rfl ?_; refine SS.val (R.len rfl rfl rfl rfl) rfl rfl ?_; refine SS.val (R.eqF rfl rfl rfl (by omega)) rfl rfl ?_; refine SS.val (R.move rfl rfl) rfl rfl ?_; refine SS.val (R.move rfl rfl) rfl rfl ?_; refine SS.val (R.nil rfl rfl) rfl rfl ?_; refine SS.val (R.field rfl rfl (I.fld rfl)) rfl rfl ?_; refine SS.val (R.move rfl rfl) rfl rfl ?_; refine SS.val (R.nil rfl rfl) rfl rfl ?_; refine SS.val (R.field rfl rfl (I.fld rfl)) rfl rfl ?_; refine SS.val (R.load rfl rfl (I.ld1 rfl (by assumption))) rfl rfl ?_; refine SS.val (R.index rfl rfl rfl (I.ixSc rfl rfl (by omega))) rfl rfl ?_)
    refine SS.val (R.load rfl rfl (I.ldN (vs := tE t) rfl rfl hc1)) rfl rfl ?_
    (refine SS.nil ?_)
    refine LL.call (R.call rfl rfl rfl) rfl rfl rfl (fits_any t _ hLd (by omega)) ?_
    rintro e w1 ⟨rfl, b1⟩
    refine ⟨_, rfl, ?_⟩
    have hL1 := hLd.below b1
    have hK1 : Kept K w w1 := (hK.trans (bkept below_drew hL.kl)).trans (bkept b1 hLd.kl)
    have hfd : (hs.isEmpty || (!t.2 && !hs.any (·.2))) = fitsP hs t := rfl
    rw [hfd]
    cases hf : fitsP hs t with
    | false =>
      (refine LL.val (R.not rfl rfl) rfl rfl rfl ?_; refine LL.val (R.pick rfl rfl rfl) rfl rfl rfl ?_; refine LL.nilS ?_; refine CC.yes rfl ?_; refine CC.ret ?_; refine EE.thenR ?_)
      refine EE.jumpR ?_
      refine EE.ret _ rfl rfl ?_
      rw [giveP_stop hf] at hP
      rw [← hP]
      exact ⟨rfl, _, _, hL1, hK1⟩
    | true =>
      have hLd1 := hL1.below below_drew
      have hK1d : Kept K w w1.drew := hK1.trans (bkept below_drew hL1.kl)
      have c1' : w1.drew.cell? ⟨g, 1, none⟩ = some (.slice (some ⟨b, 0, none⟩) (ts.length + 1) cap) := hLd1.row.cell rfl
      obtain ⟨b', off', e2, _, hc1'⟩ := (hLd1.waits.reads tEnc).get tEnc (i := 0) (t := t) rfl
      cases e2
      (refine LL.val (R.not rfl rfl) rfl rfl rfl ?_; refine LL.val (R.pick rfl rfl rfl) rfl rfl rfl ?_; refine LL.nilS ?_; refine CC.no rfl ?_; refine CC.skip ?_; refine EE.thenN ?_; refine CC.seq ?_)
      have ok0 : w1.drew.cell? ⟨g, 1, none⟩ = some (.slice (some ⟨b, 0, none⟩) (ts.length + 1) cap) ∧ Cells w1.drew ⟨b, 0 + 0 * 2, none⟩ (tE t) := ⟨c1', hc1'⟩
      refine CC.free (fun w' => w'.cell? ⟨g, 1, none⟩ = some (.slice (some ⟨b, 0, none⟩) (ts.length + 1) cap) ∧ Cells w' ⟨b, 0 + 0 * 2, none⟩ (tE t)) (by kernel_rfl) rfl ?_
      (refine AA.pure 0 rfl (by assumption) (by kernel_rfl) (fun w' hw' => R.move rfl rfl) rfl rfl ?_)
      (refine AA.pure 1 rfl (by assumption) (by kernel_rfl) (fun w' hw' => R.nil rfl rfl) rfl rfl ?_)
      (refine AA.pure 2 rfl (by assumption) (by kernel_rfl) (fun w' hw' => R.field rfl rfl (I.fld rfl)) rfl rfl ?_)
      (refine AA.pure 3 rfl (by assumption) (by kernel_rfl) (fun w' hw' => R.move rfl rfl) rfl rfl ?_)
      (refine AA.pure 4 rfl (by assumption) (by kernel_rfl) (fun w' hw' => R.nil rfl rfl) rfl rfl ?_)
      (refine AA.pure 5 rfl (by assumption) (by kernel_rfl) (fun w' hw' => R.field rfl rfl (I.fld rfl)) rfl rfl ?_)
      refine AA.pure 6 rfl (by assumption) (by kernel_rfl) (fun w' hw' => R.load rfl rfl (I.ld1 rfl hw'.1)) rfl rfl ?_
      (refine AA.pure 7 rfl (by assumption) (by kernel_rfl) (fun w' hw' => R.index rfl rfl rfl (I.ixSc rfl rfl (by omega))) rfl rfl ?_)
      refine AA.pure 8 rfl (by assumption) (by kernel_rfl) (fun w' hw' => R.load rfl rfl (I.ldN (vs := tE t) rfl rfl hw'.2)) rfl rfl ?_
      refine AA.one 9 (by kernel_rfl) ?_
      refine SR.lit (e := 51) (tE t) 1 rfl rfl rfl (fun _ => by kernel_rfl) rfl rfl ?_
      intro w2 g2 e2 r2 b2
      have hL2 := hLd1.below b2
      have ok2 : w2.cell? ⟨g, 1, none⟩ = some (.slice (some ⟨b, 0, none⟩) (ts.length + 1) cap) := hL2.row.cell rfl
      refine ⟨⟨ok2, hc1'.below b2 (Nat.lt_of_lt_of_le hbl (by have := hK1.size; have := b1.size; exact b1.size))⟩, ?_⟩
      have rd : ReadsTn w2 (.slice (some ⟨g2, 0, none⟩) 1 1) [t] := RowL.readsT (ts := [t]) tEnc (by simpa using r2) 1 (by simp)
      refine AA.one 10 (by kernel_rfl) ?_
      refine SR.call rfl (R.call rfl rfl rfl) rfl rfl (admit_any w2 hL2 rd (by simp only [List.length_singleton]; omega)) ?_
      rintro e w3 ⟨rfl, vh3, hL3, k3⟩
      obtain ⟨b', off', e2, _, hc3⟩ := (hL3.waits.reads tEnc).get tEnc (i := 0) (t := t) rfl
      cases e2
      refine ⟨_, rfl, ⟨hL3.row.cell rfl, hc3⟩, ?_⟩
      refine AA.done (by kernel_rfl) ?_
      have hK3 : Kept K w w3 := (hK1d.trans (bkept b2 hLd1.kl)).trans k3
      have hL3d := hL3.below below_drew
      have hK3d : Kept K w w3.drew := hK3.trans (bkept below_drew hL3.kl)
      have c1'' : w3.drew.cell? ⟨g, 1, none⟩ = some (.slice (some ⟨b, 0, none⟩) (ts.length + 1) cap) := hL3d.row.cell rfl
      obtain ⟨b', off', e2, _, hc1''⟩ := (hL3d.waits.reads tEnc).get tEnc (i := 0) (t := t) rfl
      cases e2
      have hc10 := hc1''.at (j := 0) (u := .int .i64 (t.1 : Int)) rfl
      (refine EE.thenN ?_; refine CC.seq ?_)
      refine CC.tail 11 (by kernel_rfl) (by kernel_rfl) ?_
      (refine SS.val (R.move rfl rfl) rfl rfl ?_; refine SS.val (R.move rfl rfl) rfl rfl ?_; refine SS.val (R.nil rfl rfl) rfl rfl ?_; refine SS.val (R.field rfl rfl (I.fld rfl)) rfl rfl ?_; refine SS.val (R.load rfl rfl (I.ld1 rfl (by assumption))) rfl rfl ?_; refine SS.val (R.index rfl rfl rfl (I.ixSc rfl rfl (by omega))) rfl rfl ?_; refine SS.val (R.field rfl rfl (I.fld rfl)) rfl rfl ?_; refine SS.val (R.load rfl rfl (I.ld1 rfl (by assumption))) rfl rfl ?_; refine SS.val (R.nil rfl rfl) rfl rfl ?_; refine SS.val (R.field rfl rfl (I.fld rfl)) rfl rfl ?_; refine SS.val (R.index rfl rfl rfl (I.ixA1 rfl (by omega))) rfl rfl ?_; refine SS.nil ?_)
      refine LL.store (v := .int .i64 1) rfl rfl rfl rfl hL3d.row (by rw [laL_len hL3d.len]; show 2 + t.1 < 11; omega) rfl rfl rfl rfl ?_
      intro w4 r4 g4 z4
      obtain ⟨hL4, k4⟩ := hL3d.setCl (x := 1) ht8 (by simpa [Nat.add_comm] using r4) g4
      have hcl := clP_move hG
      rw [hcl] at hL4
      have hK4 := hK3d.trans k4
      have c14 : w4.cell? ⟨g, 1, none⟩ = some (.slice (some ⟨b, 0, none⟩) (ts.length + 1) cap) := hL4.row.cell rfl
      (refine LL.nilS ?_; refine CC.seq ?_; refine CC.region ?_; refine LL.val (R.move rfl rfl) rfl rfl rfl ?_; refine LL.val (R.move rfl rfl) rfl rfl rfl ?_; refine LL.val (R.nil rfl rfl) rfl rfl rfl ?_; refine LL.val (R.field rfl rfl (I.fld rfl)) rfl rfl rfl ?_; refine LL.val (R.load rfl rfl (I.ld1 rfl (by assumption))) rfl rfl rfl ?_)
      refine LL.call (R.call rfl rfl rfl) rfl rfl rfl (delete_first (N := ts.length) rfl w4 hL4.waits (by omega) hcap) ?_
      rintro e w5 ⟨rfl, o5, g5⟩
      refine ⟨_, rfl, ?_⟩
      have r5 : RowL w5 g 60 (laL vh3 (.slice (some ⟨b, 0, none⟩) (ts.length + 1) cap) (clP (hs ++ [t], ts))) := hL4.row.same (g5.block g hL4.row.lt (by intro e; exact hL4.gw (by first | exact e | exact e.symm)))
      (refine LL.val (R.nil rfl rfl) rfl rfl rfl ?_; refine LL.val (R.field rfl rfl (I.fld rfl)) rfl rfl rfl ?_)
      refine LL.store rfl rfl rfl rfl r5 (by rw [laL_len hL4.len]; decide) rfl rfl rfl rfl ?_
      intro w6 r6 g6 z6
      obtain ⟨hL6, k6⟩ := hL4.setW o5 (.inl rfl) g5 r6 g6
      (refine LL.nilS ?_)
      refine CC.goto ?_
      skip
      exact EE.jump (p := ((hs, t :: ts), (uh, .slice (some ⟨b, 0, none⟩) (ts.length + 1) cap))) ((hs ++ [t], ts), (vh3, .slice (some ⟨b, 0, none⟩) ts.length cap)) ⟨rfl, trivial⟩ ⟨hL6, hG.move, (giveP_step hf).trans hP, hK4.trans k6⟩ (by simp)
end Go.Proofs.Ytcchffdnbamkoaa
