/- The statements' is: a map stands as the document's. -/
import Derived.Test.YtojoaplbgcdapaaRefR
import Derived.Test.YtojoaplbgcdapaaRes1
namespace Go.Proofs.Ytojoaplbgcdapaa
set_option linter.unusedVariables false
set_option linter.unusedSimpArgs false
open Go.RowKit Go.Shelf

theorem BmAt.up {w w' : World} {K : Nat → Prop} {g bits : Nat} {v : Value} {ws : List Nat} (h : BmAt w K g v bits ws) (hb : Below w.heap.size w w') : BmAt w' K g v bits ws := h.below hb
theorem ones_cnt (ws : List Nat) (k x : Nat) (h : ws[k]? = some x) : ∀ j, j ≤ 64 → cntP (wb ws) (64 * k + j) = cntP (wb ws) (64 * k) + ((List.range j).filter fun i => x.testBit i).length
  | 0, _ => by simp
  | j + 1, hj => by
    rw [show 64 * k + (j + 1) = (64 * k + j) + 1 by omega, cntP_succ, ones_cnt ws k x h j (by omega), List.range_succ, List.filter_append]
    have e : wb ws (64 * k + j) = x.testBit j := by
      unfold wb
      rw [show (64 * k + j) / 64 = k by omega, show (64 * k + j) % 64 = j by omega, h, Option.getD_some]
    rw [e, List.length_append]
    cases hx : x.testBit j <;> simp [hx] <;> omega
theorem ones_bits (x : Nat) : (ones x).length = ((List.range 64).filter fun i => x.testBit i).length := by
  unfold ones
  congr 1
  apply List.filter_congr
  intro i _
  simp [Nat.testBit, Nat.shiftRight_eq_div_pow, Nat.and_comm]
theorem onesW_cnt (ws : List Nat) : ∀ k, k ≤ ws.length → onesW (ws.take k) = cntP (wb ws) (64 * k)
  | 0, _ => by simp [onesW, cntP]
  | k + 1, h => by
    have hk : ws[k]? = some ws[k] := List.getElem?_eq_getElem (by omega)
    rw [onesW_step hk, onesW_cnt ws k (by omega), show 64 * (k + 1) = 64 * k + 64 by omega, ones_cnt ws k _ hk 64 (Nat.le_refl _), ones_bits]
theorem cntP_rest {p : Nat → Bool} {n : Nat} (h : ∀ i, n ≤ i → p i = false) : ∀ k, cntP p (n + k) = cntP p n
  | 0 => rfl
  | k + 1 => by rw [← Nat.add_assoc, cntP_succ, cntP_rest h k, h _ (by omega)]; rfl
theorem onesW_bits {ws : List Nat} {bits : Nat} (hl : ws.length = (bits + 63) / 64) (hr : ∀ i, bits ≤ i → wb ws i = false) : onesW ws = cntP (wb ws) bits := by
  have h1 := onesW_cnt ws ws.length (Nat.le_refl _)
  rw [List.take_length] at h1
  rw [h1, show 64 * ws.length = bits + (64 * ws.length - bits) by omega, cntP_rest hr]
theorem freeL_cnt (p : Nat → Bool) : ∀ n, freeL ((List.range n).map p) + cntP p n = n
  | 0 => by simp [freeL, cntP]
  | n + 1 => by
    have ih := freeL_cnt p n
    have e : freeL ((List.range (n + 1)).map p) = freeL ((List.range n).map p) + if p n then 0 else 1 := by
      unfold freeL
      rw [List.range_succ, List.map_append, List.filter_append, List.length_append]
      cases hx : p n <;> simp [hx]
    rw [e, cntP_succ]
    cases hx : p n <;> simp [hx] <;> omega
theorem left_eq {ws : List Nat} {bits : Nat} (hl : ws.length = (bits + 63) / 64) (hr : ∀ i, bits ≤ i → wb ws i = false) : ((bits : Int) - (onesW ws : Int)) = (freeL (mapB ws bits) : Int) := by
  have h1 := freeL_cnt (wb ws) bits
  rw [onesW_bits hl hr]
  unfold mapB
  omega
theorem runs_eqP (ws : List Nat) (n : Nat) : runsP (fun i => wb ws i == true) 0 n = runsP (wb ws) 0 n := by
  have : (fun i => wb ws i == true) = wb ws := by funext i; simp
  rw [this]

theorem Part.idx {α : Type} {l pre : List α} {x : α} (hp : Part (fun xs => xs = l) (pre ++ [x])) : l[pre.length]? = some x ∧ pre.length < l.length := by
  obtain ⟨_, rfl, t, rfl⟩ := hp
  constructor
  · rw [List.append_assoc, List.getElem?_append_right (Nat.le_refl _)]
    simp
  · simp

set_option maxRecDepth 100000 in
set_option maxHeartbeats 8000000 in
theorem is_any {K : Nat → Prop} {g bits : Nat} {v vb : Value} {ws : List Nat} (w : World) (h : BmAt w K g v bits ws) (hb : ReadsT bE 1 w vb (mapB ws bits)) :
    Calls Try.prog 13 #[.pointer (some ⟨g, 0, none⟩), vb] w fun e w' => e = .returned (.bool true) ∧ Below w.heap.size w w' := by
  obtain ⟨a, cap, rfl, hc⟩ := hb.form (mapB_len ws bits)
  have hhi := h.hi
  have hlo := h.lo
  have hlen := h.len
  have q := Below.refl w.heap.size w
  have h0 := h
  refine X.fnM Try.func13 rfl (n := 55) rfl rfl ?_
  (refine CC.seq ?_; refine CC.region ?_)
  refine LL.alloc [.bool false] rfl rfl rfl rfl rfl ?_
  intro W g4 eg r4 zg b
  have hsz_ := b.size
  replace q := q.trans (b.mono q.size)
  replace h := h.up b
  replace hb := hb.up b
  (refine LL.nilS ?_; refine CC.seq ?_; refine CC.seq ?_; refine CC.region ?_; refine LL.val (R.move rfl rfl) rfl rfl rfl ?_)
  refine LL.call (R.call rfl rfl rfl) rfl rfl rfl (blen_made _ h) ?_
  rintro e W ⟨rfl, rfl⟩
  refine ⟨_, rfl, ?_⟩
  (refine LL.val (R.move rfl rfl) rfl rfl rfl ?_; refine LL.val (R.len rfl rfl rfl rfl) rfl rfl rfl ?_; refine LL.val (R.neF rfl rfl rfl (by omega)) rfl rfl rfl ?_; refine LL.val (R.move rfl rfl) rfl rfl rfl ?_; refine LL.val (R.move rfl rfl) rfl rfl rfl ?_)
  refine LL.call (R.call rfl rfl rfl) rfl rfl rfl (bleft_made _ h) ?_
  rintro e W ⟨rfl, b⟩
  refine ⟨_, rfl, ?_⟩
  have hsz_ := b.size
  replace q := q.trans (b.mono q.size)
  replace h := h.up b
  replace hb := hb.up b
  replace r4 := r4.up b
  rw [left_eq hlen h.rest]
  (refine LL.val (R.move rfl rfl) rfl rfl rfl ?_)
  refine LL.call (R.call rfl rfl rfl) rfl rfl rfl (rleft_any _ _ _ hb (by rw [mapB_len]; omega)) ?_
  rintro e W ⟨rfl, rfl⟩
  refine ⟨_, rfl, ?_⟩
  (refine LL.val (R.neF rfl rfl rfl (by omega)) rfl rfl rfl ?_; refine LL.val (R.pick rfl rfl rfl) rfl rfl rfl ?_; refine LL.val (R.move rfl rfl) rfl rfl rfl ?_; refine LL.val (R.move rfl rfl) rfl rfl rfl ?_)
  refine LL.call (R.call rfl rfl rfl) rfl rfl rfl (bwords_made _ h) ?_
  rintro e W ⟨v1, rfl, o1, b⟩
  refine ⟨_, rfl, ?_⟩
  have hsz_ := b.size
  replace q := q.trans (b.mono q.size)
  replace h := h.up b
  replace hb := hb.up b
  replace r4 := r4.up b
  (refine LL.val (R.move rfl rfl) rfl rfl rfl ?_)
  refine LL.call (R.call rfl rfl rfl) rfl rfl rfl (rwords_any _ ws bits _ hb (by omega) hlen h.wf h.rest) ?_
  rintro e W ⟨v2, rfl, o2, b⟩
  refine ⟨_, rfl, ?_⟩
  have hsz_ := b.size
  replace q := q.trans (b.mono q.size)
  replace h := h.up b
  replace hb := hb.up b
  replace r4 := r4.up b
  replace o1 := o1.up b
  skip
  refine LL.call (R.call rfl rfl rfl) rfl rfl rfl (wsame_any _ _ ws ws _ (o1.reads uEnc) (o2.reads uEnc) (by omega) (by omega)) ?_
  rintro e W ⟨rfl, b⟩
  refine ⟨_, rfl, ?_⟩
  have hsz_ := b.size
  replace q := q.trans (b.mono q.size)
  replace h := h.up b
  replace hb := hb.up b
  replace r4 := r4.up b
  rw [decide_eq_true rfl]
  (refine LL.val (R.not rfl rfl) rfl rfl rfl ?_; refine LL.val (R.pick rfl rfl rfl) rfl rfl rfl ?_; refine LL.nilS ?_; refine CC.no rfl ?_; refine CC.skip ?_; refine EE.thenN ?_; refine CC.seq ?_; refine CC.region ?_; refine LL.val (R.move rfl rfl) rfl rfl rfl ?_)
  refine LL.call (R.call rfl rfl rfl) rfl rfl rfl (rruns_any _ (wb ws) bits _ hb (by omega)) ?_
  rintro e W ⟨v5, rfl, o5, b⟩
  refine ⟨_, rfl, ?_⟩
  have hsz_ := b.size
  replace q := q.trans (b.mono q.size)
  replace h := h.up b
  replace hb := hb.up b
  replace r4 := r4.up b
  obtain ⟨RL, hR⟩ : ∃ RL, runsP (wb ws) 0 bits = RL := ⟨_, rfl⟩
  have hRl : RL.length ≤ bits := by rw [← hR]; exact runsP_len _ _
  rw [hR] at o5
  obtain ⟨a5, cp5, rfl, _⟩ := (o5.reads rEnc).form rfl
  have h5 := o5.reads rEnc
  skip
  refine LL.alloc [.slice none 0 0] rfl rfl rfl rfl rfl ?_
  intro W_ g5 eg r5 zg b_
  skip
  refine LL.store  rfl rfl rfl rfl r5 (by exact Nat.le_of_ble_eq_true rfl) rfl rfl rfl rfl ?_
  clear r5
  intro W r5 gr_ zr_
  have b := b_.grown gr_ b_.size (by rintro k ⟨⟩; omega)
  clear b_ gr_
  have hsz_ := b.size
  replace q := q.trans (b.mono q.size)
  replace h := h.up b
  replace hb := hb.up b
  replace r4 := r4.up b
  replace h5 := h5.up b
  (refine LL.nilS ?_; refine CC.seq ?_; refine CC.region ?_; refine LL.val (R.move rfl rfl) rfl rfl rfl ?_)
  refine LL.call (R.call rfl rfl rfl) rfl rfl rfl (runs_made _ h) ?_
  rintro e W ⟨g', v', b3, b4, b5, rfl, hS, h6, l5, lD, b⟩
  refine ⟨_, rfl, ?_⟩
  have hsz_ := b.size
  replace q := q.trans (b.mono q.size)
  replace h := h.up b
  replace hb := hb.up b
  replace r4 := r4.up b
  replace h5 := h5.up b
  replace r5 := r5.up b
  obtain ⟨WB, rfl⟩ : ∃ X, X = W := ⟨_, rfl⟩
  have qB := Below.refl WB.heap.size WB
  have qw := q
  have hG := spans_gives 0 WB hS h6 (by omega)
  rw [runs_eqP, Nat.sub_zero, hR] at hG
  have hSl := hS.lt
  have h5B := h5
  have r4B := r4
  have r5B := r5
  (refine LL.val (R.assign rfl rfl) rfl rfl rfl ?_; refine LL.nilS ?_; refine CC.seq ?_; refine CC.seq ?_; refine CC.region ?_; refine LL.val (R.move rfl rfl) rfl rfl rfl ?_; refine LL.val (R.eqFn rfl rfl rfl rfl) rfl rfl rfl ?_; refine LL.nilS ?_; refine CC.no rfl ?_; refine CC.skip ?_; refine EE.thenN ?_; refine CC.seq ?_; refine CC.region ?_)
  refine LL.alloc [.int .i64 0] rfl rfl rfl rfl rfl ?_
  intro W_ g7 eg r7 zg b_
  skip
  refine LL.store (v := .int .i64 0) rfl rfl rfl rfl r7 (by exact Nat.le_of_ble_eq_true rfl) rfl rfl rfl rfl ?_
  clear r7
  intro W r7 gr_ zr_
  have b := b_.grown gr_ b_.size (by rintro k ⟨⟩; omega)
  clear b_ gr_
  have hsz_ := b.size
  replace q := q.trans (b.mono q.size)
  replace qB := qB.trans (b.mono qB.size)
  replace r4 := r4.up b
  obtain ⟨WR, rfl⟩ : ∃ X, X = W := ⟨_, rfl⟩
  have yB := qB.size
  have hg7 := r7.lt
  (refine LL.nilS ?_; refine CC.seq ?_; refine CC.seq ?_; refine CC.region ?_; refine LL.val (R.move rfl rfl) rfl rfl rfl ?_; refine LL.nilS ?_; refine CC.block ?_)
  refine CC.rangeM (γ := Nat) (gf := 50) (lb := [Value.pointer (some ⟨b5, 0, none⟩), .pointer (some ⟨b3, 0, none⟩), .pointer (some ⟨b4, 0, none⟩)]) (encs := encR) rfl rfl hG qB (fun k hk => by have := hSl k hk; omega) (fun _ => rfl) rfl
    (fun m pre W' => Below WB.heap.size WB W' ∧ RowL W' g7 3 [.int .i64 (pre.length : Int)])
    (fun m pre W' => False)
    (fun W' => Below WB.heap.size WB W' ∧ RowL W' g7 3 [.int .i64 (RL.length : Int)])
    (fun m s X Y hs ht => ⟨hs.1.trans (ht.below yB hs.1.size), ht.same g7 _ hs.2 (.inl hg7)⟩)
    (fun m s X Y hs ht => hs)
    (fun m => ⟨qB, r7⟩)
    (fun m xs W' e hi => by cases e; exact hi)
    (fun m pre W' hp hi => hi.elim)
    (fun x g8 => sl [(4, .pointer (some ⟨g4, 0, none⟩)), (5, .pointer (some ⟨g5, 0, none⟩)), (7, .pointer (some ⟨g7, 0, none⟩)), (8, .pointer (some ⟨g8, 0, none⟩))]) (fun x g8 W' => RowL W' g8 57 (rE x)) (fun x g8 => RowL.own) ?assign ?body ?after
  case assign =>
    intro l' m pre x W K hm hm2 hi hK
    obtain ⟨h1, h2⟩ := hi
    (refine CC.region ?_)
    refine LL.alloc (rE (0, 0)) rfl rfl rfl rfl rfl ?_
    intro w5 g5' e5 r5' z5 b5'
    skip
    refine LL.storeN (vs := rE x) rfl rfl rfl rfl r5' (Nat.le_of_ble_eq_true rfl) (rEnc.one x) rfl rfl ?_
    intro w6 r6 g6' z6
    have q6 : Below W.heap.size W w6 := b5'.grown g6' (by omega) (by rintro k ⟨⟩; omega)
    (refine LL.nil ?_)
    exact EE.thenK fun a' F => hK a' w6 g5' (Stays.of_below q6) (Keeps.of_below (fun k hk => by have := hSl k hk; have := h1.size; omega) q6) ⟨h1.trans (q6.mono h1.size), h2.up q6⟩ (F.keep _ ⟨rfl, rfl, rfl, rfl, trivial⟩) r6
  case body =>
    intro l' m pre x g8 W hm hm2 hl' hrl hi hax hp
    obtain ⟨h1, h2⟩ := hi
    obtain ⟨hx, hpl⟩ := hp.idx
    have h1d := h1.drew
    have r5d := r5B.up h1d
    have h5d := h5B.up h1d
    obtain ⟨bl, off, ea, hbl, hcs⟩ := h5d.get rEnc hx
    subst ea
    have c7 : W.drew.cell? ⟨g7, 0, none⟩ = some (.int .i64 (pre.length : Int)) := h2.drew.cell rfl
    have c5 := r5d.cell (j := 0) rfl
    (refine CC.block ?_; refine CC.seq ?_; refine CC.seq ?_)
    refine CC.quiet (by kernel_rfl) (by kernel_rfl) ?_
    (refine SS.val (R.load rfl rfl (I.ld1 rfl (by assumption))) rfl rfl ?_; refine SS.val (R.load rfl rfl (I.ld1 rfl (by assumption))) rfl rfl ?_; refine SS.val (R.len rfl rfl rfl rfl) rfl rfl ?_; refine SS.val (R.geF rfl rfl rfl (by omega)) rfl rfl ?_; refine SS.val (R.move rfl rfl) rfl rfl ?_)
    refine SS.val (R.load rfl rfl (I.ldN (vs := rE x) rfl rfl (hax.drew.cells rfl))) rfl rfl ?_
    (refine SS.val (R.load rfl rfl (I.ld1 rfl (by assumption))) rfl rfl ?_; refine SS.val (R.load rfl rfl (I.ld1 rfl (by assumption))) rfl rfl ?_; refine SS.val (R.index rfl rfl rfl (I.ixS rfl (by omega))) rfl rfl ?_)
    refine SS.val (R.load rfl rfl (I.ldN (vs := rE x) rfl rfl hcs)) rfl rfl ?_
    refine SS.val (R.neRun (b := false) rfl rfl rfl (by simp)) rfl rfl ?_
    (refine SS.val (R.pick rfl rfl rfl) rfl rfl ?_; refine SS.nilQ ?_)
    (refine EE.thenN ?_; refine CC.no rfl ?_; refine CC.skip ?_; refine EE.thenN ?_; refine CC.region ?_; refine LL.val (R.load rfl rfl (I.ld1 rfl (by assumption))) rfl rfl rfl ?_; refine LL.val (R.addNc rfl rfl rfl rfl (by omega)) rfl rfl rfl ?_)
    refine LL.store rfl rfl rfl rfl h2.drew (by exact Nat.le_of_ble_eq_true rfl) rfl rfl rfl rfl ?_
    intro w7 r7' g7' z7
    have hb7 : Below WB.heap.size WB w7 := h1d.grown g7' h1d.size (by rintro k ⟨⟩; omega)
    have hst7 : Stays WR.heap.size m W w7 := (Stays.of_below below_drew).trans (Stays.of_grown g7' hg7)
    have hlen' : (pre ++ [x]).length = pre.length + 1 := by simp
    (refine LL.nil ?_; refine EE.inN ?_)
    exact EE.roundN ⟨hst7, (Keeps.of_below (fun k hk => by have := hSl k hk; have := h1.size; omega) below_drew).trans (Keeps.of_grown g7' fun k hk => ⟨by have := hSl k hk; have := h1.size; show k < W.heap.size; omega, by have := hSl k hk; omega⟩), hb7, by rw [hlen']; exact r7'⟩
  case after =>
    rintro E W hE ⟨h1, h2⟩ hK
    have r5d := r5B.up h1
    have r4d := r4B.up h1
    have c7 : W.cell? ⟨g7, 0, none⟩ = some (.int .i64 (RL.length : Int)) := h2.cell rfl
    have c5 := r5d.cell (j := 0) rfl
    have qW : Below w.heap.size w W := qw.trans (h1.mono qw.size)
    have hEl : E < W.heap.size := (Array.getElem?_eq_some_iff.1 hK).1
    have hg4 := r4B.lt
    (refine EE.thenN ?_; refine CC.seq ?_; refine CC.region ?_; refine LL.val (R.load rfl rfl (I.ld1 rfl (by assumption))) rfl rfl rfl ?_; refine LL.val (R.load rfl rfl (I.ld1 rfl (by assumption))) rfl rfl rfl ?_; refine LL.val (R.len rfl rfl rfl rfl) rfl rfl rfl ?_; refine LL.val (R.eqT rfl rfl rfl (by omega)) rfl rfl rfl ?_)
    refine LL.store rfl rfl rfl rfl r4d (by exact Nat.le_of_ble_eq_true rfl) rfl rfl rfl rfl ?_
    intro W2 r2 g2 z2
    have hK2 : W2.heap[E]? = some (.deferred (some [])) := (g2.block E hEl (by simp; omega)).trans hK
    (refine LL.nilS ?_; refine CC.ret ?_)
    refine EE.retN1 hK2 rfl ⟨_, rfl, lv1 rfl ((taken_up r2 (by omega)).cell rfl)⟩ ?_
    exact ⟨rfl, taken_bel (qW.grown g2 qW.size (by rintro k ⟨⟩; omega)) (by have := qw.size; omega) (Nat.le_refl _)⟩
end Go.Proofs.Ytojoaplbgcdapaa
