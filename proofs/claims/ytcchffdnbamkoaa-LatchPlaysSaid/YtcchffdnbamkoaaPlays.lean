/- The walk of LatchPlays. -/
import Derived.Test.YtcchffdnbamkoaaWorks
namespace Go.Proofs.Ytcchffdnbamkoaa
set_option linter.unusedVariables false
set_option linter.unusedSimpArgs false
open Go.RowKit Go.Shelf

section
variable {P : Program} {ops : Array Oper} {ok : World → Prop} {Q : Exit → Act → World → Prop} {n i f : Nat} {D : List Deferred} {M : Slots} {w : World} {listed : Array Bool} {o : Oper} {K : Slots → World → Prop} {t : TypeId} {v : Value}
theorem SR.alloc (cs : List Value) (hi : ops[i]? = some o) (ho : o.op = .alloc t) (hz : zeroB P t = some v) (hcs : v.cells = cs.toArray) (hd : dstB n o.dst = true) (hg : wantB ops M o.guard = some true)
    (c : ∀ w1 g, w.heap.size = g → RowL w1 g t cs → w1.heap.size = g + 1 → Below w.heap.size w w1 → ok w1 ∧ K (putM M o.dst (.pointer (some ⟨g, 0, none⟩))) w1) : SR P ops ok i K n D M w :=
  have h := c _ _ rfl (RowL.new w t cs) (by simp) (Below.alloc0 w _)
  SR.val hi (R.alloc ho (run_alloc hz hcs)) hd hg h.1 h.2
/-- Orders that meet: what is known where they meet. -/
theorem AA.cutX {X : Type} (L : X → List (Nat × Value)) (F : X → World → Prop) (f1 : Nat) (listed1 : Array Bool) (rest : ∀ x w', F x w' → AA P ops ok Q n D (sl (L x)) f1 listed1 w') (first : (∀ x w', F x w' → AA P ops ok Q n D (sl (L x)) f1 listed1 w') → AA P ops ok Q n D M f listed w) : AA P ops ok Q n D M f listed w := first rest
end
theorem reads_row {w w' : World} {v : Value} {ts : List Tn} {b e : Nat} {p q : Option Addr} {n1 c1 n2 c2 : Nat} (h : ReadsTn w v ts) (r : RowL w b e [.slice p n1 c1, .slice q n2 c2]) (hg : w.grownBy w' (some b)) : ReadsTn w' v ts := by
  have h0 := h
  obtain ⟨a, cap, e1, hc, h'⟩ := h
  refine h0.grown hg fun x n c ev hn => ?_
  intro hb
  rw [e1] at ev
  cases ev
  have hne : ts ≠ [] := by intro e2; rw [e2] at hn; simp at hn
  obtain ⟨t, ts', rfl⟩ := List.exists_cons_of_ne_nil hne
  obtain ⟨b', off, e2, _, hcell⟩ := h' hne
  cases e2
  have hb' : b' = b := hb
  subst hb'
  have h1 := hcell 0 (by simp)
  have h2 : w.cell? ⟨b', off, none⟩ = some (.int .i64 (t.1 : Int)) := by rw [Nat.add_zero] at h1; rw [h1]; rfl
  match off, h2 with
  | 0, h2 => rw [r.cell (j := 0) (u := .slice p n1 c1) rfl] at h2; cases h2
  | 1, h2 => rw [r.cell (j := 1) (u := .slice q n2 c2) rfl] at h2; cases h2
  | k + 2, h2 =>
    have h3 : w.cell? ⟨b', k + 2, none⟩ = none := by
      have hr : w.heap[b']? = some (.cells [Value.slice p n1 c1, Value.slice q n2 c2].toArray e (0, 0)) := r
      simp [World.cell?, hr]
    rw [h3] at h2
    cases h2
theorem DocAt.row {w w' : World} {K : Nat → Prop} {uh uw : Value} {S : LS} {b e : Nat} {p q : Option Addr} {n1 c1 n2 c2 : Nat} (h : DocAt w K uh uw S) (r : RowL w b e [.slice p n1 c1, .slice q n2 c2]) (hg : w.grownBy w' (some b)) : DocAt w' K uh uw S := ⟨reads_row h.held r hg, reads_row h.waits r hg, h.ah, h.aw⟩

set_option maxRecDepth 100000 in
set_option maxHeartbeats 8000000 in
theorem plays_walk (v : Value) (xs : List Ac) (w : World) (ha : ReadsA w v xs) (hl : xs.length ≤ 9223372036854775807) :
    Calls Try.prog 3 #[v] w fun e w' => e = .returned (.bool true) ∧ Below w.heap.size w w' := by
  obtain ⟨N, hN⟩ : ∃ N, xs.length = N := ⟨_, rfl⟩
  obtain ⟨a, cap, rfl, hc⟩ := ha.form hN
  rw [hN] at hl
  refine X.fn Try.func3 rfl (n := 48) rfl rfl ?_
  (refine CC.seq ?_; refine CC.region ?_; refine LL.val (R.assign rfl rfl) rfl rfl rfl ?_; refine LL.nilS ?_; refine CC.seq ?_; refine CC.seq ?_; refine CC.region ?_; refine LL.val (R.move rfl rfl) rfl rfl rfl ?_; refine LL.val (R.len rfl rfl rfl rfl) rfl rfl rfl ?_)
  by_cases h60 : 60 < N
  · (refine LL.val (R.gtT rfl rfl rfl (by omega)) rfl rfl rfl ?_; refine LL.nilS ?_; refine CC.yes rfl ?_; refine CC.seq ?_; refine CC.region ?_)
    refine LL.call (R.call rfl rfl rfl) rfl rfl rfl (works_any w) ?_
    rintro e w1 ⟨rfl, b1⟩
    refine ⟨_, rfl, ?_⟩
    (refine LL.val (R.assign rfl rfl) rfl rfl rfl ?_; refine LL.nilS ?_; refine CC.ret ?_; refine EE.thenR ?_)
    refine EE.ret _ rfl rfl ?_
    exact ⟨rfl, b1⟩
  (refine LL.val (R.gtF rfl rfl rfl (by omega)) rfl rfl rfl ?_; refine LL.nilS ?_; refine CC.no rfl ?_; refine CC.skip ?_; refine EE.thenN ?_; refine CC.seq ?_; refine CC.region ?_)
  refine LL.call (R.call rfl rfl rfl) rfl rfl rfl (lnew_any w) ?_
  rintro e w1 ⟨g, rfl, e1, r1, b1⟩
  refine ⟨_, rfl, ?_⟩
  have hL1 := latch_new e1 r1 b1
  (refine LL.val (R.assign rfl rfl) rfl rfl rfl ?_; refine LL.nilS ?_; refine CC.seq ?_; refine CC.region ?_)
  refine LL.val (R.buildV rfl rfl (v := .agg #[.slice none 0 0, .slice none 0 0]) (fun _ => by kernel_rfl)) rfl rfl rfl ?_
  refine LL.alloc [.slice none 0 0, .slice none 0 0] rfl rfl rfl rfl rfl ?_
  intro w2 g4 e2 r2 z2 b2
  skip
  refine LL.storeN (vs := [.slice none 0 0, .slice none 0 0]) rfl rfl rfl rfl r2 (Nat.le_of_ble_eq_true rfl) (one2 _ _ rfl rfl) rfl rfl ?_
  intro w3 r3 g3 z3
  have y1 := b1.size
  have q13 : Below w1.heap.size w1 w3 := b2.grown g3 (by omega) (by rintro k ⟨⟩; omega)
  have q3 : Below w.heap.size w w3 := b1.trans (q13.mono y1)
  have hg4 : w.heap.size ≤ g4 := by omega
  have hL3 : LatchAt w3 (fun j => j < w.heap.size ∨ j = g4) g (.slice none 0 0) (.slice none 0 0) (clP ([], [])) [] [] := hL1.newer q13 fun j hj => by
    rcases hj with h | h
    · exact ⟨by have := q3.size; omega, .inl h⟩
    · subst h
      exact ⟨r3.lt, .inr (by omega)⟩
  (refine LL.nilS ?_; refine CC.seq ?_; refine CC.seq ?_; refine CC.region ?_; refine LL.val (R.assign rfl rfl) rfl rfl rfl ?_; refine LL.nilS ?_; refine CC.block ?_)
  refine CC.loop (α := Nat × Nat) (fun q => [(0, .slice a N cap), (3, .pointer (some ⟨q.2, 0, none⟩)), (4, .pointer (some ⟨g4, 0, none⟩)), (5, .int .i64 (q.1 : Int))]) (fun q wr => q.1 ≤ N ∧ Below w.heap.size w wr ∧ ∃ p1 n1 c1 p2 n2 c2 vh vw K, RowL wr g4 28 [.slice p1 n1 c1, .slice p2 n2 c2] ∧ (∀ j, (j < w.heap.size ∨ j = g4) → K j) ∧ LatchAt wr K q.2 vh vw (clP (playP (xs.take q.1))) (playP (xs.take q.1)).1 (playP (xs.take q.1)).2 ∧ DocAt wr K (.slice p1 n1 c1) (.slice p2 n2 c2) (playP (xs.take q.1))) (fun q => N - q.1) (0, g) ⟨rfl, rfl, rfl, rfl, trivial⟩ ⟨by simp, q3, _, _, _, _, _, _, _, _, _, r3, fun _ h => h, hL3, DocAt.none⟩ ?_
  rintro ⟨i, g⟩ wr ⟨hi, hbw, p1, n1, c1, p2, n2, c2, vh, vw, K, r4, hKw, hL, hD⟩
  simp only at hi hL hD
  have y := hbw.size
  by_cases h1 : i < N
  · obtain ⟨s, hs⟩ : ∃ s, xs[i]? = some s := ⟨_, List.getElem?_eq_getElem (by omega)⟩
    obtain ⟨b, off, rfl, hbl, hcs⟩ := ha.get aEnc hs
    have hS := playP_good (xs.take i)
    have hl8 := hS.len
    have hS' := playP_good (xs.take (i + 1))
    have hstep := playP_step hs
    have hg4l := r4.lt
    (refine CC.seq ?_; refine CC.seq ?_; refine CC.region ?_; refine LL.val (R.move rfl rfl) rfl rfl rfl ?_; refine LL.val (R.move rfl rfl) rfl rfl rfl ?_; refine LL.val (R.len rfl rfl rfl rfl) rfl rfl rfl ?_; refine LL.val (R.ltT rfl rfl rfl (by omega)) rfl rfl rfl ?_; refine LL.nilS ?_; refine CC.yes rfl ?_; refine CC.skip ?_; refine EE.thenN ?_; refine CC.seq ?_; refine CC.block ?_; refine CC.seq ?_)
    have ok0 : Kept (fun j => j < w.heap.size ∨ j = g4) wr wr.drew := (bkept below_drew hL.kl).less hKw
    have c3 : ∀ w', Kept (fun j => j < w.heap.size ∨ j = g4) wr w' → Cells w' ⟨b, off + i * 2, none⟩ (aE s) := fun w' hw' => hcs.below (B := w.heap.size) (hbw.trans (hw'.less fun j hj => .inl hj).bel) hbl
    have c4 : ∀ w', Kept (fun j => j < w.heap.size ∨ j = g4) wr w' → Cells w' ⟨g4, 0, none⟩ [.slice p1 n1 c1, .slice p2 n2 c2] := fun w' hw' => (r4.kept hw' (.inr rfl)).cells rfl
    refine CC.free (Kept (fun j => j < w.heap.size ∨ j = g4) wr) (by kernel_rfl) rfl ?_
    (refine AA.pure 0 rfl (by assumption) (by kernel_rfl) (fun w' hw' => R.move rfl rfl) rfl rfl ?_)
    refine AA.pure 1 rfl (by assumption) (by kernel_rfl) (fun w' hw' => R.load rfl rfl (I.ldN (vs := [.slice p1 n1 c1, .slice p2 n2 c2]) rfl rfl (c4 w' hw'))) rfl rfl ?_
    (refine AA.pure 2 rfl (by assumption) (by kernel_rfl) (fun w' hw' => R.move rfl rfl) rfl rfl ?_)
    (refine AA.pure 3 rfl (by assumption) (by kernel_rfl) (fun w' hw' => R.move rfl rfl) rfl rfl ?_)
    (refine AA.pure 4 rfl (by assumption) (by kernel_rfl) (fun w' hw' => R.index rfl rfl rfl (I.ixS rfl (by omega))) rfl rfl ?_)
    refine AA.pure 5 rfl (by assumption) (by kernel_rfl) (fun w' hw' => R.load rfl rfl (I.ldN (vs := aE s) rfl rfl (c3 w' hw'))) rfl rfl ?_
    refine AA.cutX (X := Nat × (Value × Value)) (fun x => [(0, .slice (some ⟨b, off, none⟩) N cap), (3, .pointer (some ⟨g, 0, none⟩)), (4, .pointer (some ⟨g4, 0, none⟩)), (5, .int .i64 (i : Int)), (6, .pointer (some ⟨x.1, 0, none⟩)), (28, .agg #[x.2.1, x.2.2]), (29, .bool true)]) (fun x w' => Kept (fun j => j < w.heap.size ∨ j = g4) wr w' ∧ RowL w' x.1 28 [.slice none 0 0, .slice none 0 0] ∧ w.heap.size ≤ x.1 ∧ x.1 ≠ g4 ∧ ∃ vh vw K', (∀ j, (j < w.heap.size ∨ j = g4 ∨ j = x.1) → K' j) ∧ LatchAt w' K' g vh vw (clP (playP (xs.take (i + 1)))) (playP (xs.take (i + 1))).1 (playP (xs.take (i + 1))).2 ∧ DocAt w' K' x.2.1 x.2.2 (playP (xs.take (i + 1)))) 2 #[true, true, true, true, true, true, true, true, true, true, true, false, false] ?rest ?first
    case first =>
      intro hrest
      refine AA.two 6 10 (by kernel_rfl) ?_ ?_
      · refine SR.call rfl (R.call rfl rfl rfl) rfl rfl (act_any s.1 s.2 wr.drew (hL.below below_drew) hS (hD.below below_drew) (by omega)) ?_
        rintro e w5 ⟨uh', uw', vh', vw', K', rfl, hKK, hL5, hD5, k5⟩
        rw [← hstep] at hL5 hD5
        have ok5 : Kept (fun j => j < w.heap.size ∨ j = g4) wr w5 := ok0.trans (k5.less hKw)
        refine ⟨_, rfl, ok5, ?_⟩
        rw [decide_eq_true rfl]
        (refine AA.pure 7 rfl (by assumption) (by kernel_rfl) (fun w' hw' => R.move rfl rfl) rfl rfl ?_)
        refine AA.pure 8 rfl (by assumption) (by kernel_rfl) (fun w' hw' => R.extract rfl rfl rfl) rfl rfl ?_
        refine AA.pure 9 rfl (by assumption) (by kernel_rfl) (fun w' hw' => R.extract rfl rfl rfl) rfl rfl ?_
        refine AA.one 10 (by kernel_rfl) ?_
        refine SR.alloc [.slice none 0 0, .slice none 0 0] rfl rfl rfl rfl rfl rfl ?_
        intro w6 g6 e6 r6 z6 b6
        have ok6 : Kept (fun j => j < w.heap.size ∨ j = g4) wr w6 := ok5.trans (bkept b6 fun j hj => hL5.kl j (hKK j (hKw j hj)))
        have y5 := ok5.size
        refine ⟨ok6, ?_⟩
        refine AA.weak (hrest (g6, (uh', uw')) w6 ⟨ok6, r6, by simp only; omega, by simp only; omega, vh', vw', fun j => K' j ∨ j = g6, fun j hj => ?_, hL5.newer b6 fun j hj => ?_, (hD5.below b6).less fun j hj => .inl hj⟩) ⟨rfl, rfl, rfl, rfl, rfl, rfl, rfl, trivial⟩ rfl
        · rcases hj with h | h | h
          · exact .inl (hKK j (hKw j (.inl h)))
          · exact .inl (hKK j (hKw j (.inr h)))
          · exact .inr h
        · rcases hj with h | h
          · exact ⟨by have := hL5.kl j h; omega, .inl h⟩
          · exact ⟨by omega, .inr (by omega)⟩
      · refine SR.alloc [.slice none 0 0, .slice none 0 0] rfl rfl rfl rfl rfl rfl ?_
        intro w5 g6 e6 r6 z6 b6
        have hyd : wr.drew.heap.size = wr.heap.size := rfl
        have b56 : Below wr.heap.size wr w5 := below_drew.trans b6
        have ok5 : Kept (fun j => j < w.heap.size ∨ j = g4) wr w5 := (bkept b56 hL.kl).less hKw
        refine ⟨ok5, ?_⟩
        have hL5 : LatchAt w5 (fun j => K j ∨ j = g6) g vh vw (clP (playP (xs.take i))) (playP (xs.take i)).1 (playP (xs.take i)).2 := hL.newer b56 fun j hj => by
          rcases hj with h | h
          · exact ⟨by have := hL.kl j h; omega, .inl h⟩
          · exact ⟨by omega, .inr (by omega)⟩
        refine AA.one 6 (by kernel_rfl) ?_
        refine SR.call rfl (R.call rfl rfl rfl) rfl rfl (act_any s.1 s.2 w5 hL5 hS ((hD.below b56).less fun j hj => .inl hj) (by omega)) ?_
        rintro e w6 ⟨uh', uw', vh', vw', K', rfl, hKK, hL6, hD6, k6⟩
        rw [← hstep] at hL6 hD6
        have ok6 : Kept (fun j => j < w.heap.size ∨ j = g4) wr w6 := ok5.trans (k6.less fun j hj => .inl (hKw j hj))
        refine ⟨_, rfl, ok6, ?_⟩
        rw [decide_eq_true rfl]
        (refine AA.pure 7 rfl (by assumption) (by kernel_rfl) (fun w' hw' => R.move rfl rfl) rfl rfl ?_)
        refine AA.pure 8 rfl (by assumption) (by kernel_rfl) (fun w' hw' => R.extract rfl rfl rfl) rfl rfl ?_
        refine AA.pure 9 rfl (by assumption) (by kernel_rfl) (fun w' hw' => R.extract rfl rfl rfl) rfl rfl ?_
        refine AA.weak (hrest (g6, (uh', uw')) w6 ⟨ok6, r6.kept k6 (.inr rfl), by simp only; omega, by simp only; omega, vh', vw', K', fun j hj => ?_, hL6, hD6⟩) ⟨rfl, rfl, rfl, rfl, rfl, rfl, rfl, trivial⟩ rfl
        rcases hj with h | h | h
        · exact hKK j (.inl (hKw j (.inl h)))
        · exact hKK j (.inl (hKw j (.inr h)))
        · exact hKK j (.inr h)
    case rest =>
      rintro ⟨g6, uh', uw'⟩ w6 ⟨ok6, r6, hg6, hne6, vh', vw', K', hKK, hL6, hD6⟩
      simp only at r6 hg6 hne6 hD6
      have y6 := ok6.size
      obtain ⟨a3, cp3, rfl, _⟩ := hD6.held.form rfl
      obtain ⟨a4, cp4, rfl, _⟩ := hD6.waits.form rfl
      refine AA.one 11 (by kernel_rfl) ?_
      refine SR.storeN (vs := [.slice a3 _ cp3, .slice a4 _ cp4]) rfl rfl rfl rfl rfl r6 (Nat.le_of_ble_eq_true rfl) (one2 _ _ rfl rfl) rfl rfl ?_
      intro w7 r7 g7 z7
      have hg4l6 := (r4.kept ok6 (.inr rfl)).lt
      have ok7 : Kept (fun j => j < w.heap.size ∨ j = g4) wr w7 := ok6.trans (grown_kept g7 (fun j hj => by rcases hj with h | h <;> omega) (by rintro j hj e; cases e; rcases hj with h | h; omega; exact hne6 h))
      refine ⟨ok7, ?_⟩
      (refine AA.pure 12 rfl (by assumption) (by kernel_rfl) (fun w' hw' => R.assign rfl rfl) rfl rfl ?_)
      refine AA.done (by kernel_rfl) ?_
      have hL7 := hL6.other g7 (hKK g6 (.inr (.inr rfl)))
      have hD7 := hD6.row r6 g7
      have r47 := r4.kept ok7 (.inr rfl)
      have q7 : Below w.heap.size w w7 := hbw.trans (ok7.less fun j hj => .inl hj).bel
      (refine EE.thenN ?_; refine CC.seq ?_; refine CC.seq ?_; refine CC.region ?_)
      refine LL.val (R.load rfl rfl (I.ldN rfl rfl (r7.cells (vs := [.slice a3 _ cp3, .slice a4 _ cp4]) rfl))) rfl rfl rfl ?_
      refine LL.storeN (vs := [.slice a3 _ cp3, .slice a4 _ cp4]) rfl rfl rfl rfl r47 (Nat.le_of_ble_eq_true rfl) (one2 _ _ rfl rfl) rfl rfl ?_
      intro w8 r8 g8 z8
      have hL8 := hL7.other g8 (hKK g4 (.inr (.inl rfl)))
      have hD8 := hD7.row r47 g8
      have q8 : Below w.heap.size w w8 := q7.grown g8 q7.size (by rintro k ⟨⟩; omega)
      (refine LL.nilS ?_; refine CC.seq ?_; refine CC.region ?_; refine LL.val (R.move rfl rfl) rfl rfl rfl ?_; refine LL.val (R.not rfl rfl) rfl rfl rfl ?_; refine LL.val (R.move rfl rfl) rfl rfl rfl ?_; refine LL.val (R.move rfl rfl) rfl rfl rfl ?_)
      refine LL.val (R.load rfl rfl (I.ldN rfl rfl (r8.cells (vs := [.slice a3 _ cp3, .slice a4 _ cp4]) rfl))) rfl rfl rfl ?_
      refine LL.call (R.call rfl rfl rfl) rfl rfl rfl (is_any w8 hL8 hS' hD8.held hD8.waits) ?_
      rintro e w9 ⟨rfl, b9⟩
      refine ⟨_, rfl, ?_⟩
      have hL9 := hL8.below b9
      have hD9 := hD8.below b9
      have r9 := r8.below b9 r8.lt
      have q9 : Below w.heap.size w w9 := q8.trans (b9.mono q8.size)
      have hc0 := (hcs.below (B := w.heap.size) q9 hbl).at (j := 0) (u := .int .i64 s.1) rfl
      have hg4l9 := r9.lt
      by_cases h3 : s.1 = 3
      · (refine LL.val (R.not rfl rfl) rfl rfl rfl ?_; refine LL.val (R.pick rfl rfl rfl) rfl rfl rfl ?_; refine LL.nilS ?_; refine CC.no rfl ?_; refine CC.skip ?_; refine EE.thenN ?_; refine CC.seq ?_; refine CC.region ?_; refine LL.val (R.move rfl rfl) rfl rfl rfl ?_; refine LL.val (R.move rfl rfl) rfl rfl rfl ?_; refine LL.val (R.index rfl rfl rfl (I.ixS rfl (by omega))) rfl rfl rfl ?_; refine LL.val (R.field rfl rfl (I.fld rfl)) rfl rfl rfl ?_; refine LL.val (R.load rfl rfl (I.ld1 rfl (by assumption))) rfl rfl rfl ?_; refine LL.val (R.eqT rfl rfl rfl (by omega)) rfl rfl rfl ?_; refine LL.nilS ?_; refine CC.yes rfl ?_; refine CC.region ?_; refine LL.val (R.move rfl rfl) rfl rfl rfl ?_)
        refine LL.call (R.call rfl rfl rfl) rfl rfl rfl (lcopy_any w9 hL9 hS') ?_
        rintro e w10 ⟨g', vh2, vw2, rfl, hL10, hg', b10⟩
        refine ⟨_, rfl, ?_⟩
        (refine LL.val (R.assign rfl rfl) rfl rfl rfl ?_; refine LL.nil ?_; refine EE.inN ?_; refine EE.thenN ?_; refine CC.region ?_; refine LL.val (R.move rfl rfl) rfl rfl rfl ?_; refine LL.val (R.addNc rfl rfl rfl rfl (by omega)) rfl rfl rfl ?_; refine LL.val (R.assign rfl rfl) rfl rfl rfl ?_; refine LL.nil ?_)
        exact EE.round (p := (i, g)) (i + 1, g') ⟨rfl, rfl, rfl, rfl, trivial⟩ ⟨by simp only; omega, q9.trans (b10.mono q9.size), _, _, _, _, _, _, _, _, _, r9.below b10 hg4l9, fun j hj => by rcases hj with h | h; (have := q9.size; omega); omega, hL10, (hD9.below b10).less fun j hj => hL9.kl j hj⟩ (by simp only; omega)
      · (refine LL.val (R.not rfl rfl) rfl rfl rfl ?_; refine LL.val (R.pick rfl rfl rfl) rfl rfl rfl ?_; refine LL.nilS ?_; refine CC.no rfl ?_; refine CC.skip ?_; refine EE.thenN ?_; refine CC.seq ?_; refine CC.region ?_; refine LL.val (R.move rfl rfl) rfl rfl rfl ?_; refine LL.val (R.move rfl rfl) rfl rfl rfl ?_; refine LL.val (R.index rfl rfl rfl (I.ixS rfl (by omega))) rfl rfl rfl ?_; refine LL.val (R.field rfl rfl (I.fld rfl)) rfl rfl rfl ?_; refine LL.val (R.load rfl rfl (I.ld1 rfl (by assumption))) rfl rfl rfl ?_; refine LL.val (R.eqF rfl rfl rfl (by omega)) rfl rfl rfl ?_; refine LL.nilS ?_; refine CC.no rfl ?_; refine CC.skip ?_; refine EE.inN ?_; refine EE.thenN ?_; refine CC.region ?_; refine LL.val (R.move rfl rfl) rfl rfl rfl ?_; refine LL.val (R.addNc rfl rfl rfl rfl (by omega)) rfl rfl rfl ?_; refine LL.val (R.assign rfl rfl) rfl rfl rfl ?_; refine LL.nil ?_)
        exact EE.round (p := (i, g)) (i + 1, g) ⟨rfl, rfl, rfl, rfl, trivial⟩ ⟨by simp only; omega, q9, _, _, _, _, _, _, _, _, K', r9, fun j hj => hKK j (by rcases hj with h | h; exact .inl h; exact .inr (.inl h)), hL9, hD9⟩ (by simp only; omega)
  · obtain rfl : i = N := by omega
    (refine CC.seq ?_; refine CC.seq ?_; refine CC.region ?_; refine LL.val (R.move rfl rfl) rfl rfl rfl ?_; refine LL.val (R.move rfl rfl) rfl rfl rfl ?_; refine LL.val (R.len rfl rfl rfl rfl) rfl rfl rfl ?_; refine LL.val (R.ltF rfl rfl rfl (by omega)) rfl rfl rfl ?_; refine LL.nilS ?_; refine CC.no rfl ?_; refine CC.exit ?_; refine EE.thenX ?_; refine EE.thenX ?_; refine EE.inX ?_; refine EE.thenN ?_; refine CC.seq ?_; refine CC.region ?_)
    refine LL.call (R.call rfl rfl rfl) rfl rfl rfl (works_any wr) ?_
    rintro e w1 ⟨rfl, b1⟩
    refine ⟨_, rfl, ?_⟩
    (refine LL.val (R.assign rfl rfl) rfl rfl rfl ?_; refine LL.nilS ?_; refine CC.ret ?_)
    refine EE.ret _ rfl rfl ?_
    exact ⟨rfl, hbw.trans (b1.mono y)⟩
end Go.Proofs.Ytcchffdnbamkoaa
