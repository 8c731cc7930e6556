/- The walk of PlanOrders. -/
import Derived.Test.YtcmgpfahpmkeoaaOrdF
namespace Go.Proofs.Ytcmgpfahpmkeoaa
set_option linter.unusedVariables false
set_option linter.unusedSimpArgs false
open Go.RowKit Go.Shelf

/-- What lies between two ranges. -/
structure LvO (W w : World) (g3 g4 g7 gt bb : Nat) (many : Int) (v5 v7 vb : Value) (L : List Ac) (tv : Int) : Prop where
  r3 : RowL W g3 3 [.int .i64 many]
  r4 : RowL W g4 4 [.bool false]
  r7 : RowL W g7 24 [v7]
  rt : RowL W gt 3 [.int .i64 tv]
  h5 : ReadsT aE 3 W v5 L
  h7 : ReadsT aE 3 W v7 L
  rb : RowL W bb 24 [vb]
  hb : ReadsT aE 3 W vb L
  bel : Below w.heap.size w W
  l4 : w.heap.size ≤ g4
theorem LvO.up {W W' w : World} {g3 g4 g7 gt bb : Nat} {many : Int} {v5 v7 vb : Value} {L : List Ac} {tv : Int} (h : LvO W w g3 g4 g7 gt bb many v5 v7 vb L tv) (hb : Below W.heap.size W W') : LvO W' w g3 g4 g7 gt bb many v5 v7 vb L tv :=
  ⟨h.r3.up hb, h.r4.up hb, h.r7.up hb, h.rt.up hb, h.h5.up hb, h.h7.up hb, h.rb.up hb, h.hb.up hb, h.bel.trans (hb.mono h.bel.size), h.l4⟩
theorem LvO.turn {W W' w : World} {g3 g4 g7 gt gt' bb : Nat} {many : Int} {v5 v7 vb : Value} {L : List Ac} {tv tv' : Int} (h : LvO W w g3 g4 g7 gt bb many v5 v7 vb L tv) (hb : Below W.heap.size W W') (rt : RowL W' gt' 3 [.int .i64 tv']) : LvO W' w g3 g4 g7 gt' bb many v5 v7 vb L tv' :=
  let h' := h.up hb
  ⟨h'.r3, h'.r4, h'.r7, rt, h'.h5, h'.h7, h'.rb, h'.hb, h'.bel, h'.l4⟩

set_option maxRecDepth 100000 in
set_option maxHeartbeats 8000000 in
theorem orders_walk (v0 : Value) (l : List Pt) (many : Int) (w : World) (h0 : ReadsT pE 2 w v0 l) (hw : ∀ p ∈ l, p.1 ≤ 9223372036854775807) (hlen : l.length ≤ 9223372036854775807) :
    Calls Try.prog 3 #[v0, .int .i64 many] w fun e w' => e = .returned (.bool true) ∧ Below w.heap.size w w' := by
  obtain ⟨a0, cap0, rfl, hc0⟩ := h0.form rfl
  have hp0 := h0
  have q := Below.refl w.heap.size w
  refine X.fnM Try.func3 rfl (n := 122) rfl rfl ?_
  (refine CC.seq ?_; refine CC.region ?_)
  refine LL.box [.int .i64 many] rfl rfl rfl rfl rfl ?_
  intro W g3 eg r3 zg b
  have hsz_ := b.size
  replace q := q.trans (b.mono q.size)
  replace h0 := h0.up b
  skip
  refine LL.alloc [.bool false] rfl rfl rfl rfl rfl ?_
  intro W g4 eg r4 zg b
  have hsz_ := b.size
  replace q := q.trans (b.mono q.size)
  replace h0 := h0.up b
  replace r3 := r3.up b
  have l4 : w.heap.size ≤ g4 := by omega
  by_cases hbad : 100 < l.length
  · (refine LL.nilS ?_; refine CC.seq ?_; refine CC.seq ?_; refine CC.region ?_; refine LL.val (R.move rfl rfl) rfl rfl rfl ?_; refine LL.val (R.len rfl rfl rfl rfl) rfl rfl rfl ?_; refine LL.val (R.gtT rfl rfl rfl (by omega)) rfl rfl rfl ?_; refine LL.nilS ?_; refine CC.yes rfl ?_; refine CC.seq ?_; refine CC.region ?_)
    refine LL.call (R.call rfl rfl rfl) rfl rfl rfl (works_any _) ?_
    rintro e W ⟨rfl, b⟩
    refine ⟨_, rfl, ?_⟩
    have hsz_ := b.size
    replace q := q.trans (b.mono q.size)
    replace r4 := r4.up b
    skip
    refine LL.store  rfl rfl rfl rfl r4 (by exact Nat.le_of_ble_eq_true rfl) rfl rfl rfl rfl ?_
    intro W r_ gr_ zr_
    have hgl_ := r4.lt
    replace q := q.grown gr_ q.size (by rintro k ⟨⟩; omega)
    replace r4 := r_
    (refine LL.nilS ?_; refine CC.ret ?_; refine EE.thenR ?_)
    refine EE.retM1 rfl ⟨_, rfl, lv1 rfl (r4.cell rfl)⟩ ?_
    exact ⟨rfl, q⟩
  (refine LL.nilS ?_; refine CC.seq ?_; refine CC.seq ?_; refine CC.region ?_; refine LL.val (R.move rfl rfl) rfl rfl rfl ?_; refine LL.val (R.len rfl rfl rfl rfl) rfl rfl rfl ?_; refine LL.val (R.gtF rfl rfl rfl (by omega)) rfl rfl rfl ?_; refine LL.nilS ?_; refine CC.no rfl ?_; refine CC.skip ?_; refine EE.thenN ?_; refine CC.seq ?_; refine CC.region ?_)
  refine LL.lit (e := 56) [] 0 rfl rfl (fun _ => by kernel_rfl) rfl rfl ?_
  intro W g5 eg5 r5 zg5 b
  have hsz_ := b.size
  replace q := q.trans (b.mono q.size)
  replace h0 := h0.up b
  replace r3 := r3.up b
  replace r4 := r4.up b
  have o5 : OwnsT pE 2 W 0 56 (.slice (some ⟨g5, 0, none⟩) 0 0) [] := RowL.ownsT (ts := []) pEnc r5 (Nat.zero_le _) (by simp)
  (refine LL.val (R.move rfl rfl) rfl rfl rfl ?_)
  refine LL.append0 rfl rfl pEnc ElPut o5 h0 (by simp only [maxLen]; omega) (by omega) (Nat.zero_le _) rfl rfl ?_
  intro vc W oc b
  have hsz_ := b.size
  replace q := q.trans (b.mono q.size)
  replace h0 := h0.up b
  replace r3 := r3.up b
  replace r4 := r4.up b
  have hcr := oc.reads pEnc
  obtain ⟨ac, capc, rfl, _⟩ := hcr.form rfl
  skip
  refine LL.call (R.call rfl rfl rfl) rfl rfl rfl (order_any _ _ _ hcr (by omega) hw) ?_
  rintro e W ⟨v5, rfl, o, b⟩
  refine ⟨_, rfl, ?_⟩
  have hsz_ := b.size
  replace q := q.trans (b.mono q.size)
  replace h0 := h0.up b
  replace r3 := r3.up b
  replace r4 := r4.up b
  have h5 := o.reads aEnc
  (refine LL.val (R.move rfl rfl) rfl rfl rfl ?_; refine LL.val (R.extract rfl rfl rfl) rfl rfl rfl ?_; refine LL.val (R.extract rfl rfl rfl) rfl rfl rfl ?_; refine LL.val (R.assign rfl rfl) rfl rfl rfl ?_; refine LL.val (R.assign rfl rfl) rfl rfl rfl ?_; refine LL.nilS ?_; refine CC.seq ?_; refine CC.region ?_; refine LL.val (R.move rfl rfl) rfl rfl rfl ?_)
  refine LL.call (R.call rfl rfl rfl) rfl rfl rfl (rorder_any _ _ _ h0 (by omega) hw) ?_
  rintro e W ⟨v7, rfl, o7, b⟩
  refine ⟨_, rfl, ?_⟩
  have hsz_ := b.size
  replace q := q.trans (b.mono q.size)
  replace h0 := h0.up b
  replace r3 := r3.up b
  replace r4 := r4.up b
  replace h5 := h5.up b
  have h7 := o7.reads aEnc
  obtain ⟨L, hL⟩ : ∃ L, orderP l = L := ⟨_, rfl⟩
  have hLl : L.length ≤ 302 := by have := orderP_len l; rw [hL] at this; omega
  rw [hL] at h5 h7
  obtain ⟨N, hN⟩ : ∃ N, L.length = N := ⟨_, rfl⟩
  obtain ⟨a5, cap5, rfl, _⟩ := h5.form hN
  obtain ⟨a7, cap7, rfl, _⟩ := h7.form hN
  (refine LL.val (R.move rfl rfl) rfl rfl rfl ?_; refine LL.val (R.extract rfl rfl rfl) rfl rfl rfl ?_; refine LL.val (R.extract rfl rfl rfl) rfl rfl rfl ?_)
  refine LL.alloc [.slice none 0 0] rfl rfl rfl rfl rfl ?_
  intro W_ g7 eg r7 zg b_
  skip
  refine LL.store  rfl rfl rfl rfl r7 (by exact Nat.le_of_ble_eq_true rfl) rfl rfl rfl rfl ?_
  clear r7
  intro W r7 gr_ zr_
  have b := b_.grown gr_ b_.size (by rintro k ⟨⟩; omega)
  clear b_ gr_
  have hsz_ := b.size
  replace q := q.trans (b.mono q.size)
  replace h0 := h0.up b
  replace r3 := r3.up b
  replace r4 := r4.up b
  replace h5 := h5.up b
  replace h7 := h7.up b
  (refine LL.val (R.assign rfl rfl) rfl rfl rfl ?_; refine LL.nilS ?_; refine CC.seq ?_; refine CC.region ?_; refine LL.val (R.move rfl rfl) rfl rfl rfl ?_)
  refine LL.call (R.call rfl rfl rfl) rfl rfl rfl (each_any _ _ _ h0 (by omega) hw) ?_
  rintro e W ⟨bb, vb, rfl, rb, hb, _, b⟩
  refine ⟨_, rfl, ?_⟩
  have hsz_ := b.size
  replace q := q.trans (b.mono q.size)
  replace h0 := h0.up b
  replace r3 := r3.up b
  replace r4 := r4.up b
  replace h5 := h5.up b
  replace h7 := h7.up b
  replace r7 := r7.up b
  rw [hL] at hb
  -- rest
  (refine LL.val (R.assign rfl rfl) rfl rfl rfl ?_; refine LL.nilS ?_; refine CC.seq ?_; refine CC.seq ?_; refine CC.region ?_; refine LL.val (R.move rfl rfl) rfl rfl rfl ?_; refine LL.val (R.eqFn rfl rfl rfl rfl) rfl rfl rfl ?_; refine LL.val (R.move rfl rfl) rfl rfl rfl ?_; refine LL.val (R.move rfl rfl) rfl rfl rfl ?_; refine LL.val (R.load rfl rfl (I.ld1 rfl (RowL.cell (by assumption) rfl))) rfl rfl rfl ?_)
  refine LL.call (R.call rfl rfl rfl) rfl rfl rfl (asame_any _ _ _ _ _ h5 h7 (by omega) (by omega)) ?_
  rintro e W ⟨rfl, b⟩
  refine ⟨_, rfl, ?_⟩
  have hsz_ := b.size
  replace q := q.trans (b.mono q.size)
  replace h0 := h0.up b
  replace r3 := r3.up b
  replace r4 := r4.up b
  replace h5 := h5.up b
  replace h7 := h7.up b
  replace r7 := r7.up b
  replace rb := rb.up b
  replace hb := hb.up b
  rw [decide_eq_true rfl]
  (refine LL.val (R.not rfl rfl) rfl rfl rfl ?_; refine LL.val (R.pick rfl rfl rfl) rfl rfl rfl ?_; refine LL.val (R.move rfl rfl) rfl rfl rfl ?_; refine LL.val (R.move rfl rfl) rfl rfl rfl ?_)
  refine LL.call (R.call rfl rfl rfl) rfl rfl rfl (num_any _ _) ?_
  rintro e W ⟨rfl, rfl⟩
  refine ⟨_, rfl, ?_⟩
  (refine LL.val (R.move rfl rfl) rfl rfl rfl ?_; refine LL.val (R.neF rfl rfl rfl (by omega)) rfl rfl rfl ?_; refine LL.val (R.pick rfl rfl rfl) rfl rfl rfl ?_; refine LL.nilS ?_; refine CC.no rfl ?_; refine CC.skip ?_; refine EE.thenN ?_; refine CC.seq ?_; refine CC.seq ?_; refine CC.region ?_)
  refine LL.alloc [.int .i64 0] rfl rfl rfl rfl rfl ?_
  intro W_ gt eg rt zg b_
  skip
  refine LL.store (v := .int .i64 0) rfl rfl rfl rfl rt (by exact Nat.le_of_ble_eq_true rfl) rfl rfl rfl rfl ?_
  clear rt
  intro W rt gr_ zr_
  have b := b_.grown gr_ b_.size (by rintro k ⟨⟩; omega)
  clear b_ gr_
  have hsz_ := b.size
  replace q := q.trans (b.mono q.size)
  replace h0 := h0.up b
  replace r3 := r3.up b
  replace r4 := r4.up b
  replace h5 := h5.up b
  replace h7 := h7.up b
  replace r7 := r7.up b
  replace rb := rb.up b
  replace hb := hb.up b
  have hV : LvO W w g3 g4 g7 gt bb many (.slice a5 N cap5) (.slice a7 N cap7) vb L 0 := ⟨r3, r4, r7, rt, h5, h7, rb, hb, q, l4⟩
  obtain ⟨W0, rfl⟩ : ∃ X, X = W := ⟨_, rfl⟩
  clear r3 r4 r7 rt h5 h7 rb hb h0
  (refine LL.nilS ?_; refine CC.block ?_)
  refine CC.keep [(0, .slice a0 l.length cap0), (3, .pointer (some ⟨g3, 0, none⟩)), (4, .pointer (some ⟨g4, 0, none⟩)), (5, .slice a5 N cap5), (7, .pointer (some ⟨g7, 0, none⟩)), (8, .int .i64 (orderN l : Int)), (9, .func (.func 50) #[] [Value.pointer (some ⟨bb, 0, none⟩)].toArray), (10, .pointer (some ⟨gt, 0, none⟩))] ⟨rfl, rfl, rfl, rfl, rfl, rfl, rfl, rfl, trivial⟩ ?_
  refine CC.loopN 3 ?_
  refine RN.step ?_
  -- turn 0
  have hT := hV.rt
  have hG := numbered_gives bb vb L W0 hV.rb hV.hb (by omega)
  have hDl := hV.hb.atD_lt
  have qB := Below.refl W0.heap.size W0
  have q := hV.bel
  (refine CC.seq ?_; refine CC.seq ?_; refine CC.region ?_; refine LL.val (R.load rfl rfl (I.ld1 rfl (RowL.cell (by assumption) rfl))) rfl rfl rfl ?_; refine LL.val (R.ltT rfl rfl rfl (by omega)) rfl rfl rfl ?_; refine LL.nilS ?_; refine CC.yes rfl ?_; refine CC.skip ?_; refine EE.thenN ?_; refine CC.seq ?_; refine CC.block ?_; refine CC.seq ?_; refine CC.region ?_)
  refine LL.alloc [.int .i64 0] rfl rfl rfl rfl rfl ?_
  intro W g11 eg r11 zg b
  have hsz_ := b.size
  replace q := q.trans (b.mono q.size)
  replace qB := qB.trans (b.mono qB.size)
  skip
  refine LL.alloc [.int .i64 0] rfl rfl rfl rfl rfl ?_
  intro W g12 eg r12 zg b
  have hsz_ := b.size
  replace q := q.trans (b.mono q.size)
  replace qB := qB.trans (b.mono qB.size)
  replace r11 := r11.up b
  have k11 : W0.heap.size ≤ g11 ∧ g11 < g12 := by omega
  skip
  refine LL.store (v := .int .i64 0) rfl rfl rfl rfl r11 (by exact Nat.le_of_ble_eq_true rfl) rfl rfl rfl rfl ?_
  intro W r_ gr_ zr_
  have hgl_ := r11.lt
  replace q := q.grown gr_ q.size (by rintro k ⟨⟩; omega)
  replace qB := qB.grown gr_ qB.size (by rintro k ⟨⟩; omega)
  replace r12 := r12.gr gr_ (by have := r12.lt; omega)
  replace r11 := r_
  skip
  refine LL.store (v := .int .i64 0) rfl rfl rfl rfl r12 (by exact Nat.le_of_ble_eq_true rfl) rfl rfl rfl rfl ?_
  intro W r_ gr_ zr_
  have hgl_ := r12.lt
  replace q := q.grown gr_ q.size (by rintro k ⟨⟩; omega)
  replace qB := qB.grown gr_ qB.size (by rintro k ⟨⟩; omega)
  replace r11 := r11.gr gr_ (by have := r11.lt; omega)
  replace r12 := r_
  obtain ⟨X0, rfl⟩ : ∃ X, X = W := ⟨_, rfl⟩
  have yB := qB.size
  have hg12 := r12.lt
  (refine LL.nilS ?_; refine CC.seq ?_; refine CC.seq ?_; refine CC.region ?_; refine LL.val (R.move rfl rfl) rfl rfl rfl ?_; refine LL.nilS ?_; refine CC.block ?_)
  refine CC.rangeZ (γ := Nat) (gf := 50) (lb := [Value.pointer (some ⟨bb, 0, none⟩)]) (encs := encN) rfl rfl hG qB (fun k hk => by have := hDl k hk; omega) (fun _ => rfl) rfl
    (fun m (pre : List (Nat × Ac)) W' => Below W0.heap.size W0 W' ∧ RowL W' g11 3 [.int .i64 (pre.length : Int)] ∧ RowL W' g12 3 [.int .i64 (cntS (L.take pre.length) : Int)] ∧ (pre.length = 0 ∨ (pre.length : Int) < many))
    (fun m (pre : List (Nat × Ac)) W' => Below W0.heap.size W0 W' ∧ RowL W' g11 3 [.int .i64 (pre.length : Int)] ∧ (many ≤ pre.length ∧ (pre.length = 1 ∨ (pre.length : Int) - 1 < many) ∧ 1 ≤ pre.length ∧ pre.length ≤ N))
    (fun W' => Below W0.heap.size W0 W' ∧ ∃ p : Nat, RowL W' g11 3 [.int .i64 (p : Int)] ∧ ((p : Int) = if (if 1 < many then many else 1) < (N : Int) then (if 1 < many then many else 1) else (N : Int)))
    (fun m m' s X Y hs ht hg => ⟨hs.1.trans (ht.below yB hs.1.size), ht.row hs.2.1 (.inl (by omega)), ht.row hs.2.2.1 (.inl hg12), hs.2.2.2⟩)
    (fun m m' s X Y hs ht hg => ⟨hs.1.trans (ht.below yB hs.1.size), ht.row hs.2.1 (.inl (by omega)), hs.2.2⟩)
    ⟨qB, r11, r12, .inl rfl⟩
    ?hIA ?hIxA
    (fun x g => sl [(3, .pointer (some ⟨g3, 0, none⟩)), (4, .pointer (some ⟨g4, 0, none⟩)), (7, .pointer (some ⟨g7, 0, none⟩)), (10, .pointer (some ⟨gt, 0, none⟩)), (11, .pointer (some ⟨g11, 0, none⟩)), (12, .pointer (some ⟨g12, 0, none⟩)), (13, .int .i64 (x.1 : Int)), (14, .pointer (some ⟨g, 0, none⟩))]) (fun x g W' => RowL W' g 38 (aE x.2) ∧ g12 < g) (fun x g => fun _ W W' row h hg hr => ⟨RowL.own () W W' row h.1 hg hr, h.2⟩) ?assign ?body ?after
  case hIA =>
    rintro m xs W' rfl ⟨h1, h2, _, h3⟩
    have hnl : (numL L).length = N := by unfold numL; rw [preN_len (Nat.le_refl _)]; exact hN
    exact ⟨h1, _, h2, by rw [hnl] at h3 ⊢; rcases h3 with h3 | h3 <;> split <;> split <;> omega⟩
  case hIxA =>
    rintro m pre W' hp ⟨h1, h2, h3⟩
    exact ⟨h1, pre.length, h2, by split <;> split <;> omega⟩
  case assign =>
    rintro l' m pre x W K hm ⟨h1, h2, h3, h4⟩ hK
    have ySz := h1.size
    (refine CC.seq ?_; refine CC.region ?_; refine LL.val (R.assign rfl rfl) rfl rfl rfl ?_; refine LL.nilS ?_; refine CC.region ?_)
    refine LL.alloc [.int .i64 0, .int .i64 0, .int .u64 0] rfl rfl rfl rfl rfl ?_
    intro W5 g eg r5' z5 b5'
    skip
    refine LL.storeN (vs := aE x.2) rfl rfl rfl rfl r5' (Nat.le_of_ble_eq_true rfl) (aEnc.one x.2) rfl rfl ?_
    intro W6 r6 g6 z6
    have q6 : Below W.heap.size W W6 := b5'.grown g6 (by omega) (by rintro k ⟨⟩; omega)
    (refine LL.nil ?_)
    exact EE.thenK fun a' F => hK a' W6 g (StaysZ.of_below q6) (Keeps.of_below (fun k hk => by have := hDl k hk; omega) q6) ⟨h1.trans (q6.mono h1.size), h2.up q6, h3.up q6, h4⟩ (F.keep _ ⟨rfl, rfl, rfl, rfl, rfl, rfl, rfl, rfl, trivial⟩) ⟨r6, by have := h3.lt; omega⟩
  case body =>
    intro l'' m pre x g W hm hl' hrl hi hax hp
    obtain ⟨h1, h2, h3, h4⟩ := hi
    obtain ⟨hax, hgg⟩ := hax
    have ySz := h1.size
    obtain ⟨hx1, hx2, hx3, _⟩ := numL_part hp
    have hpl : pre.length < N := by omega
    have hcn := cntS_snoc hx2
    have hcl := cntS_le (L.take pre.length)
    rw [List.length_take] at hcl
    have hVr := hV.up h1
    obtain ⟨bl, off, ea, hbl, hcs⟩ := hVr.h7.get aEnc hx2
    subst ea
    have hxd : (pre ++ [x]).length = pre.length + 1 := by simp
    obtain ⟨xk, xa⟩ := x
    simp only at hx2 hx3 hax hcn
    subst hx3
    have hVd := hVr.up (below_drew (w := W))
    have cn : W.drew.cell? ⟨g11, 0, none⟩ = some (.int .i64 (pre.length : Int)) := h2.drew.cell rfl
    have cs : W.drew.cell? ⟨g12, 0, none⟩ = some (.int .i64 (cntS (L.take pre.length) : Int)) := h3.drew.cell rfl
    have cw := hVd.r7.cell (j := 0) rfl
    have caD : Cells W.drew ⟨g, 0, none⟩ (aE xa) := hax.drew.cells rfl
    have hcsD : Cells W.drew ⟨bl, off + pre.length * 3, none⟩ (aE xa) := hcs.below below_drew hbl
    (refine CC.block ?_; refine CC.seq ?_; refine CC.seq ?_)
    refine CC.quiet (by kernel_rfl) (by kernel_rfl) ?_
    (refine SS.val (R.load rfl rfl (I.ld1 rfl (by assumption))) rfl rfl ?_; refine SS.val (R.load rfl rfl (I.ld1 rfl (by assumption))) rfl rfl ?_; refine SS.val (R.len rfl rfl rfl rfl) rfl rfl ?_; refine SS.val (R.geF rfl rfl rfl (by omega)) rfl rfl ?_; refine SS.val (R.move rfl rfl) rfl rfl ?_)
    refine SS.val (R.load rfl rfl (I.ldN (vs := aE xa) rfl rfl caD)) rfl rfl ?_
    (refine SS.val (R.load rfl rfl (I.ld1 rfl (by assumption))) rfl rfl ?_; refine SS.val (R.load rfl rfl (I.ld1 rfl (by assumption))) rfl rfl ?_; refine SS.val (R.index rfl rfl rfl (I.ixS rfl (by omega))) rfl rfl ?_)
    refine SS.val (R.load rfl rfl (I.ldN (vs := aE xa) rfl rfl hcsD)) rfl rfl ?_
    refine SS.val (R.neAct (b := false) rfl rfl rfl (by simp)) rfl rfl ?_
    (refine SS.val (R.pick rfl rfl rfl) rfl rfl ?_; refine SS.val (R.move rfl rfl) rfl rfl ?_; refine SS.val (R.move rfl rfl) rfl rfl ?_; refine SS.val (R.load rfl rfl (I.ld1 rfl (by assumption))) rfl rfl ?_; refine SS.val (R.neF rfl rfl rfl (by omega)) rfl rfl ?_; refine SS.val (R.pick rfl rfl rfl) rfl rfl ?_; refine SS.nilQ ?_)
    (refine EE.thenN ?_; refine CC.no rfl ?_; refine CC.skip ?_; refine EE.thenN ?_; refine CC.seq ?_; refine CC.seq ?_; refine CC.region ?_; refine LL.val (R.field rfl rfl (I.fld rfl)) rfl rfl rfl ?_; refine LL.val (R.load rfl rfl (I.ld1 rfl (RowL.cell (by assumption) rfl))) rfl rfl rfl ?_)
    obtain ⟨kd, at_, vl⟩ := xa
    have ck : W.drew.cell? ⟨g, 0 + 0, none⟩ = some (.int .i64 kd) := hax.drew.cell (j := 0) rfl
    have h1d : Below W0.heap.size W0 W.drew := h1.trans ((below_drew (w := W)).mono h1.size)
    have stD : StaysZ X0.heap.size m W W.drew := StaysZ.of_below below_drew
    have kpD : Keeps (atD vb) W W.drew := Keeps.of_below (fun k hk => by have := hDl k hk; omega) below_drew
    have yd : W.drew.heap.size = W.heap.size := rfl
    by_cases k1 : kd = 1
    case' pos =>
      rw [if_pos k1] at hcn
      (refine LL.val (R.eqT rfl rfl rfl (by omega)) rfl rfl rfl ?_; refine LL.nilS ?_; refine CC.yes rfl ?_; refine CC.region ?_; refine LL.val (R.load rfl rfl (I.ld1 rfl (by assumption))) rfl rfl rfl ?_; refine LL.val (R.addNc rfl rfl rfl rfl (by omega)) rfl rfl rfl ?_)
      refine LL.store rfl rfl rfl rfl h3.drew (by exact Nat.le_of_ble_eq_true rfl) rfl rfl rfl rfl ?_
      intro W3 r12c gr3 z3
      have r12c : RowL W3 g12 3 [.int .i64 (cntS (L.take (pre.length + 1)) : Int)] := by rw [hcn]; exact r12c
      have b3 : Below W0.heap.size W0 W3 := h1d.grown gr3 h1d.size (by rintro k ⟨⟩; omega)
      have st3 := stD.trans (StaysZ.of_grown gr3 hg12)
      have kp3 := kpD.trans (Keeps.of_grown gr3 fun k hk => by have := hDl k hk; omega)
      have r11c := h2.drew.gr gr3 (by omega)
      have c11c := r11c.cell (j := 0) rfl
      (refine LL.nilS ?_; refine CC.seq ?_; refine CC.region ?_; refine LL.val (R.load rfl rfl (I.ld1 rfl (by assumption))) rfl rfl rfl ?_; refine LL.val (R.addNc rfl rfl rfl rfl (by omega)) rfl rfl rfl ?_)
    case' neg =>
      rw [if_neg k1, Nat.add_zero] at hcn
      (refine LL.val (R.eqF rfl rfl rfl (by omega)) rfl rfl rfl ?_; refine LL.nilS ?_; refine CC.no rfl ?_; refine CC.skip ?_; refine EE.thenN ?_; refine CC.seq ?_; refine CC.region ?_; refine LL.val (R.load rfl rfl (I.ld1 rfl (by assumption))) rfl rfl rfl ?_; refine LL.val (R.addNc rfl rfl rfl rfl (by omega)) rfl rfl rfl ?_)
      have r12c : RowL W.drew g12 3 [.int .i64 (cntS (L.take (pre.length + 1)) : Int)] := by rw [hcn]; exact h3.drew
      have r11c := h2.drew
      obtain ⟨W3, hW3⟩ : ∃ X, X = W.drew := ⟨_, rfl⟩
      rw [← hW3] at r12c r11c stD kpD h1d yd ⊢
      have b3 := h1d
      have st3 := stD
      have kp3 := kpD
    all_goals
      refine LL.store rfl rfl rfl rfl r11c (by exact Nat.le_of_ble_eq_true rfl) rfl rfl rfl rfl ?_
      intro W4 r11d gr4 z4
      have b4 : Below W0.heap.size W0 W4 := b3.grown gr4 b3.size (by rintro k ⟨⟩; omega)
      have st4 := st3.trans (StaysZ.of_grown gr4 (by omega))
      have y3 := b3.size
      have kp4 := kp3.trans (Keeps.of_grown gr4 fun k hk => by have := hDl k hk; omega)
      have hV4 := hV.up b4
      have d11 : W4.cell? ⟨g11, 0, none⟩ = some (.int .i64 ((pre.length + 1 : Nat) : Int)) := r11d.cell (j := 0) rfl
      have r11e : RowL W4 g11 3 [.int .i64 ((pre ++ [(cntS (L.take pre.length), (kd, at_, vl))]).length : Int)] := by rw [hxd]; exact r11d
      have r12e : RowL W4 g12 3 [.int .i64 (cntS (L.take (pre ++ [(cntS (L.take pre.length), (kd, at_, vl))]).length) : Int)] := by rw [hxd]; exact r12c.gr gr4 (by omega)
      have d10 := hV4.rt.cell (j := 0) rfl
      have d3 := hV4.r3.cell (j := 0) rfl
      by_cases hmany : many ≤ (pre.length : Int) + 1
      · (repeat (first | (first | refine CC.seq ?_ | refine CC.region ?_ | refine LL.nilS ?_ | refine CC.yes rfl ?_ | refine CC.no rfl ?_ | refine CC.block ?_ | refine EE.thenN ?_ | refine LL.nil ?_ | refine CC.exit ?_ | refine CC.ret ?_ | refine CC.skip ?_ | refine EE.thenX ?_ | refine EE.thenR ?_ | refine EE.inN ?_ | refine EE.inX ?_ | refine EE.inX' rfl ?_ | refine EE.inR ?_ | refine CC.label ?_ | refine EE.thenG ?_ | refine EE.inG ?_) | (first | refine LL.val (R.move rfl rfl) rfl rfl rfl ?_ | refine LL.val (R.assign rfl rfl) rfl rfl rfl ?_ | refine LL.val (R.nil rfl rfl) rfl rfl rfl ?_ | refine LL.val (R.field rfl rfl (I.fld rfl)) rfl rfl rfl ?_ | refine LL.val (R.load rfl rfl (I.ld1 rfl (by assumption))) rfl rfl rfl ?_ | refine LL.val (R.load rfl rfl (I.ld1 rfl (RowL.cell (by assumption) rfl))) rfl rfl rfl ?_ | refine LL.val (R.index rfl rfl rfl (I.ixA1c rfl rfl (by first | omega | decide))) rfl rfl rfl ?_ | refine LL.val (R.index rfl rfl rfl (I.ixS1c rfl rfl (by omega))) rfl rfl rfl ?_ | refine LL.val (R.index rfl rfl rfl (I.ixAc rfl rfl (by first | omega | decide))) rfl rfl rfl ?_ | refine LL.val (R.index rfl rfl rfl (I.ixSc rfl rfl (by omega))) rfl rfl rfl ?_ | refine LL.val (R.index rfl rfl rfl (I.ixA1 rfl (by omega))) rfl rfl rfl ?_ | refine LL.val (R.index rfl rfl rfl (I.ixS1 rfl (by omega))) rfl rfl rfl ?_ | refine LL.val (R.index rfl rfl rfl (I.ixA rfl (by omega))) rfl rfl rfl ?_ | refine LL.val (R.index rfl rfl rfl (I.ixS rfl (by omega))) rfl rfl rfl ?_ | refine LL.val (R.ltT rfl rfl rfl (by omega)) rfl rfl rfl ?_ | refine LL.val (R.ltF rfl rfl rfl (by omega)) rfl rfl rfl ?_ | refine LL.val (R.addNc rfl rfl rfl rfl (by omega)) rfl rfl rfl ?_ | refine LL.val (R.subNc rfl rfl rfl rfl (by omega) (by omega)) rfl rfl rfl ?_ | refine LL.val (R.addN rfl rfl rfl (by omega)) rfl rfl rfl ?_ | refine LL.val (R.subN rfl rfl rfl (by omega) (by omega)) rfl rfl rfl ?_ | refine LL.val (R.subcN rfl rfl rfl rfl (by omega) (by omega)) rfl rfl rfl ?_ | refine LL.val (R.addI rfl rfl rfl (by omega)) rfl rfl rfl ?_ | refine LL.val (R.subI rfl rfl rfl (by omega)) rfl rfl rfl ?_ | refine LL.val (R.mulNc rfl rfl rfl rfl (by omega)) rfl rfl rfl ?_ | refine LL.val (R.mulcN rfl rfl rfl rfl (by omega)) rfl rfl rfl ?_ | refine LL.val (R.quoNc rfl rfl rfl rfl (by omega) (by omega)) rfl rfl rfl ?_ | refine LL.val (R.remNc rfl rfl rfl rfl (by omega)) rfl rfl rfl ?_ | refine LL.val (R.mulN rfl rfl rfl (by omega)) rfl rfl rfl ?_ | refine LL.val (R.quoN rfl rfl rfl (by omega) (by omega)) rfl rfl rfl ?_ | refine LL.val (R.remN rfl rfl rfl (by omega)) rfl rfl rfl ?_ | refine LL.val (R.leT rfl rfl rfl (by omega)) rfl rfl rfl ?_ | refine LL.val (R.leF rfl rfl rfl (by omega)) rfl rfl rfl ?_ | refine LL.val (R.gtT rfl rfl rfl (by omega)) rfl rfl rfl ?_ | refine LL.val (R.gtF rfl rfl rfl (by omega)) rfl rfl rfl ?_ | refine LL.val (R.geT rfl rfl rfl (by omega)) rfl rfl rfl ?_ | refine LL.val (R.geF rfl rfl rfl (by omega)) rfl rfl rfl ?_ | refine LL.val (R.eqT rfl rfl rfl (by omega)) rfl rfl rfl ?_ | refine LL.val (R.eqF rfl rfl rfl (by omega)) rfl rfl rfl ?_ | refine LL.val (R.neT rfl rfl rfl (by omega)) rfl rfl rfl ?_ | refine LL.val (R.neF rfl rfl rfl (by omega)) rfl rfl rfl ?_ | refine LL.val (R.eqPtr rfl rfl rfl rfl rfl) rfl rfl rfl ?_ | refine LL.val (R.nePtr rfl rfl rfl rfl rfl) rfl rfl rfl ?_ | refine LL.val (R.eqSl rfl rfl rfl rfl rfl) rfl rfl rfl ?_ | refine LL.val (R.neSl rfl rfl rfl rfl rfl) rfl rfl rfl ?_ | refine LL.val (R.eqFn rfl rfl rfl rfl) rfl rfl rfl ?_ | refine LL.val (R.eqBool rfl rfl rfl rfl rfl) rfl rfl rfl ?_ | refine LL.val (R.neBool rfl rfl rfl rfl rfl) rfl rfl rfl ?_ | refine LL.val (R.xorU rfl rfl rfl (by first | omega | decide) (by first | omega | decide)) rfl rfl rfl ?_ | refine LL.val (R.addUN rfl rfl rfl (by omega)) rfl rfl rfl ?_ | refine LL.val (R.not rfl rfl) rfl rfl rfl ?_ | refine LL.val (R.lenS rfl rfl rfl rfl) rfl rfl rfl ?_ | refine LL.val (R.len rfl rfl rfl rfl) rfl rfl rfl ?_ | refine LL.val (R.pick rfl rfl rfl) rfl rfl rfl ?_ | refine LL.val (R.extract rfl rfl rfl) rfl rfl rfl ?_ | refine LL.val (R.func rfl rfl rfl) rfl rfl rfl ?_ | refine LL.val (R.slice rfl rfl rfl rfl rfl (I.slA rfl)) rfl rfl rfl ?_ | refine LL.val (R.slice rfl rfl rfl rfl rfl (I.slAto rfl (by omega))) rfl rfl rfl ?_) | refine LL.skip rfl rfl ?_))
        exact EE.roundXZ ⟨st4, rfl, b4, r11e, by rw [hxd]; omega, by rw [hxd]; omega, by rw [hxd]; omega, by rw [hxd]; omega⟩
      · (repeat (first | (first | refine CC.seq ?_ | refine CC.region ?_ | refine LL.nilS ?_ | refine CC.yes rfl ?_ | refine CC.no rfl ?_ | refine CC.block ?_ | refine EE.thenN ?_ | refine LL.nil ?_ | refine CC.exit ?_ | refine CC.ret ?_ | refine CC.skip ?_ | refine EE.thenX ?_ | refine EE.thenR ?_ | refine EE.inN ?_ | refine EE.inX ?_ | refine EE.inX' rfl ?_ | refine EE.inR ?_ | refine CC.label ?_ | refine EE.thenG ?_ | refine EE.inG ?_) | (first | refine LL.val (R.move rfl rfl) rfl rfl rfl ?_ | refine LL.val (R.assign rfl rfl) rfl rfl rfl ?_ | refine LL.val (R.nil rfl rfl) rfl rfl rfl ?_ | refine LL.val (R.field rfl rfl (I.fld rfl)) rfl rfl rfl ?_ | refine LL.val (R.load rfl rfl (I.ld1 rfl (by assumption))) rfl rfl rfl ?_ | refine LL.val (R.load rfl rfl (I.ld1 rfl (RowL.cell (by assumption) rfl))) rfl rfl rfl ?_ | refine LL.val (R.index rfl rfl rfl (I.ixA1c rfl rfl (by first | omega | decide))) rfl rfl rfl ?_ | refine LL.val (R.index rfl rfl rfl (I.ixS1c rfl rfl (by omega))) rfl rfl rfl ?_ | refine LL.val (R.index rfl rfl rfl (I.ixAc rfl rfl (by first | omega | decide))) rfl rfl rfl ?_ | refine LL.val (R.index rfl rfl rfl (I.ixSc rfl rfl (by omega))) rfl rfl rfl ?_ | refine LL.val (R.index rfl rfl rfl (I.ixA1 rfl (by omega))) rfl rfl rfl ?_ | refine LL.val (R.index rfl rfl rfl (I.ixS1 rfl (by omega))) rfl rfl rfl ?_ | refine LL.val (R.index rfl rfl rfl (I.ixA rfl (by omega))) rfl rfl rfl ?_ | refine LL.val (R.index rfl rfl rfl (I.ixS rfl (by omega))) rfl rfl rfl ?_ | refine LL.val (R.ltT rfl rfl rfl (by omega)) rfl rfl rfl ?_ | refine LL.val (R.ltF rfl rfl rfl (by omega)) rfl rfl rfl ?_ | refine LL.val (R.addNc rfl rfl rfl rfl (by omega)) rfl rfl rfl ?_ | refine LL.val (R.subNc rfl rfl rfl rfl (by omega) (by omega)) rfl rfl rfl ?_ | refine LL.val (R.addN rfl rfl rfl (by omega)) rfl rfl rfl ?_ | refine LL.val (R.subN rfl rfl rfl (by omega) (by omega)) rfl rfl rfl ?_ | refine LL.val (R.subcN rfl rfl rfl rfl (by omega) (by omega)) rfl rfl rfl ?_ | refine LL.val (R.addI rfl rfl rfl (by omega)) rfl rfl rfl ?_ | refine LL.val (R.subI rfl rfl rfl (by omega)) rfl rfl rfl ?_ | refine LL.val (R.mulNc rfl rfl rfl rfl (by omega)) rfl rfl rfl ?_ | refine LL.val (R.mulcN rfl rfl rfl rfl (by omega)) rfl rfl rfl ?_ | refine LL.val (R.quoNc rfl rfl rfl rfl (by omega) (by omega)) rfl rfl rfl ?_ | refine LL.val (R.remNc rfl rfl rfl rfl (by omega)) rfl rfl rfl ?_ | refine LL.val (R.mulN rfl rfl rfl (by omega)) rfl rfl rfl ?_ | refine LL.val (R.quoN rfl rfl rfl (by omega) (by omega)) rfl rfl rfl ?_ | refine LL.val (R.remN rfl rfl rfl (by omega)) rfl rfl rfl ?_ | refine LL.val (R.leT rfl rfl rfl (by omega)) rfl rfl rfl ?_ | refine LL.val (R.leF rfl rfl rfl (by omega)) rfl rfl rfl ?_ | refine LL.val (R.gtT rfl rfl rfl (by omega)) rfl rfl rfl ?_ | refine LL.val (R.gtF rfl rfl rfl (by omega)) rfl rfl rfl ?_ | refine LL.val (R.geT rfl rfl rfl (by omega)) rfl rfl rfl ?_ | refine LL.val (R.geF rfl rfl rfl (by omega)) rfl rfl rfl ?_ | refine LL.val (R.eqT rfl rfl rfl (by omega)) rfl rfl rfl ?_ | refine LL.val (R.eqF rfl rfl rfl (by omega)) rfl rfl rfl ?_ | refine LL.val (R.neT rfl rfl rfl (by omega)) rfl rfl rfl ?_ | refine LL.val (R.neF rfl rfl rfl (by omega)) rfl rfl rfl ?_ | refine LL.val (R.eqPtr rfl rfl rfl rfl rfl) rfl rfl rfl ?_ | refine LL.val (R.nePtr rfl rfl rfl rfl rfl) rfl rfl rfl ?_ | refine LL.val (R.eqSl rfl rfl rfl rfl rfl) rfl rfl rfl ?_ | refine LL.val (R.neSl rfl rfl rfl rfl rfl) rfl rfl rfl ?_ | refine LL.val (R.eqFn rfl rfl rfl rfl) rfl rfl rfl ?_ | refine LL.val (R.eqBool rfl rfl rfl rfl rfl) rfl rfl rfl ?_ | refine LL.val (R.neBool rfl rfl rfl rfl rfl) rfl rfl rfl ?_ | refine LL.val (R.xorU rfl rfl rfl (by first | omega | decide) (by first | omega | decide)) rfl rfl rfl ?_ | refine LL.val (R.addUN rfl rfl rfl (by omega)) rfl rfl rfl ?_ | refine LL.val (R.not rfl rfl) rfl rfl rfl ?_ | refine LL.val (R.lenS rfl rfl rfl rfl) rfl rfl rfl ?_ | refine LL.val (R.len rfl rfl rfl rfl) rfl rfl rfl ?_ | refine LL.val (R.pick rfl rfl rfl) rfl rfl rfl ?_ | refine LL.val (R.extract rfl rfl rfl) rfl rfl rfl ?_ | refine LL.val (R.func rfl rfl rfl) rfl rfl rfl ?_ | refine LL.val (R.slice rfl rfl rfl rfl rfl (I.slA rfl)) rfl rfl rfl ?_ | refine LL.val (R.slice rfl rfl rfl rfl rfl (I.slAto rfl (by omega))) rfl rfl rfl ?_) | refine LL.skip rfl rfl ?_))
        exact EE.roundNZ ⟨st4, kp4, b4, r11e, r12e, .inr (by rw [hxd]; omega)⟩
  case after =>
    rintro E1 W hE ⟨h1, p, hrp, hcp⟩ hK
    have hVd := hV.up h1
    have c12 : W.cell? ⟨g11, 0, none⟩ = some (.int .i64 (p : Int)) := hrp.cell rfl
    have c9 := hVd.r7.cell (j := 0) rfl
    have c11 := hVd.rt.cell (j := 0) rfl
    have c3 := hVd.r3.cell (j := 0) rfl
    (refine EE.thenN ?_; refine CC.seq ?_; refine CC.region ?_; refine LL.val (R.load rfl rfl (I.ld1 rfl (by assumption))) rfl rfl rfl ?_; refine LL.val (R.eqT rfl rfl rfl (by omega)) rfl rfl rfl ?_; refine LL.val (R.move rfl rfl) rfl rfl rfl ?_; refine LL.val (R.load rfl rfl (I.ld1 rfl (by assumption))) rfl rfl rfl ?_; refine LL.val (R.load rfl rfl (I.ld1 rfl (by assumption))) rfl rfl rfl ?_; refine LL.val (R.len rfl rfl rfl rfl) rfl rfl rfl ?_; refine LL.val (R.load rfl rfl (I.ld1 rfl (by assumption))) rfl rfl rfl ?_)
    refine LL.val (R.max rfl rfl) rfl rfl rfl ?_
    refine LL.val (R.min rfl rfl) rfl rfl rfl ?_
    obtain ⟨zz, hzz⟩ : ∃ zz : Int, (if (if 1 < many then many else 1) < (N : Int) then (if 1 < many then many else 1) else (N : Int)) = zz := ⟨_, rfl⟩
    rw [hzz] at hcp ⊢
    have q := hVd.bel
    have hq0 := hVd.bel.size
    have qv := Below.refl W.heap.size W
    have hE1 := hK
    (refine LL.val (R.neF rfl rfl rfl (by omega)) rfl rfl rfl ?_; refine LL.val (R.pick rfl rfl rfl) rfl rfl rfl ?_; refine LL.val (R.move rfl rfl) rfl rfl rfl ?_; refine LL.val (R.load rfl rfl (I.ld1 rfl (by assumption))) rfl rfl rfl ?_; refine LL.val (R.eqF rfl rfl rfl (by omega)) rfl rfl rfl ?_; refine LL.val (R.move rfl rfl) rfl rfl rfl ?_; refine LL.skip rfl rfl ?_; refine LL.skip rfl rfl ?_; refine LL.skip rfl rfl ?_; refine LL.skip rfl rfl ?_; refine LL.val (R.pick rfl rfl rfl) rfl rfl rfl ?_; refine LL.val (R.pick rfl rfl rfl) rfl rfl rfl ?_; refine LL.nilS ?_; refine CC.no rfl ?_; refine CC.skip ?_; refine EE.inN ?_; refine EE.thenN ?_; refine CC.seq ?_; refine CC.seq ?_; refine CC.region ?_; refine LL.val (R.load rfl rfl (I.ld1 rfl (by assumption))) rfl rfl rfl ?_; refine LL.nilS ?_; refine CC.region ?_)
    refine LL.alloc [.int .i64 0] rfl rfl rfl rfl rfl ?_
    intro W_ gu eg ru zg b_
    skip
    refine LL.store (v := .int .i64 0) rfl rfl rfl rfl ru (by exact Nat.le_of_ble_eq_true rfl) rfl rfl rfl rfl ?_
    clear ru
    intro W ru gr_ zr_
    have b := b_.grown gr_ b_.size (by rintro k ⟨⟩; omega)
    clear b_ gr_
    have hsz_ := b.size
    replace q := q.trans (b.mono q.size)
    replace qv := qv.trans (b.mono qv.size)
    replace hE1 := defer_up hE1 b
    have hE1l := (Array.getElem?_eq_some_iff.1 hK).1
    (refine LL.nilS ?_; refine CC.region ?_; refine LL.val (R.load rfl rfl (I.ld1 rfl (RowL.cell (by assumption) rfl))) rfl rfl rfl ?_; refine LL.val (R.addI rfl rfl rfl (by omega)) rfl rfl rfl ?_)
    refine LL.store (v := .int .i64 1) rfl rfl rfl rfl ru (by exact Nat.le_of_ble_eq_true rfl) rfl rfl rfl rfl ?_
    intro W r_ gr_ zr_
    have hgl_ := ru.lt
    replace q := q.grown gr_ q.size (by rintro k ⟨⟩; omega)
    replace qv := qv.grown gr_ qv.size (by rintro k ⟨⟩; omega)
    replace ru := r_
    replace hE1 := (gr_.block E1 (by omega) (by simp; omega)).trans hE1
    replace hV := hVd.turn qv ru
    have hE1l := (Array.getElem?_eq_some_iff.1 hE1).1
    have hg4l := hV.r4.lt
    have hE14 : g4 < E1 := by have := hVd.r4.lt; have := yB; omega
    clear hVd c12 c9 c11 c3 hcp hrp h1 r11 r12 hT qB
    obtain ⟨W1, rfl⟩ : ∃ X, X = W := ⟨_, rfl⟩
    (refine LL.nil ?_)
    refine EE.again ?_
    refine RN.keep [(0, .slice a0 l.length cap0), (3, .pointer (some ⟨g3, 0, none⟩)), (4, .pointer (some ⟨g4, 0, none⟩)), (5, .slice a5 N cap5), (7, .pointer (some ⟨g7, 0, none⟩)), (8, .int .i64 (orderN l : Int)), (9, .func (.func 50) #[] [Value.pointer (some ⟨bb, 0, none⟩)].toArray), (10, .pointer (some ⟨gu, 0, none⟩))] ⟨rfl, rfl, rfl, rfl, rfl, rfl, rfl, rfl, trivial⟩ ?_
    refine RN.step ?_
    -- turn 1
    have hT := hV.rt
    have hG := numbered_gives bb vb L W1 hV.rb hV.hb (by omega)
    have hDl := hV.hb.atD_lt
    have qB := Below.refl W1.heap.size W1
    have q := hV.bel
    (refine CC.seq ?_; refine CC.seq ?_; refine CC.region ?_; refine LL.val (R.load rfl rfl (I.ld1 rfl (RowL.cell (by assumption) rfl))) rfl rfl rfl ?_; refine LL.val (R.ltT rfl rfl rfl (by omega)) rfl rfl rfl ?_; refine LL.nilS ?_; refine CC.yes rfl ?_; refine CC.skip ?_; refine EE.thenN ?_; refine CC.seq ?_; refine CC.block ?_; refine CC.seq ?_; refine CC.region ?_)
    refine LL.alloc [.int .i64 0] rfl rfl rfl rfl rfl ?_
    intro W g11 eg r11 zg b
    have hsz_ := b.size
    replace q := q.trans (b.mono q.size)
    replace qB := qB.trans (b.mono qB.size)
    skip
    refine LL.alloc [.int .i64 0] rfl rfl rfl rfl rfl ?_
    intro W g12 eg r12 zg b
    have hsz_ := b.size
    replace q := q.trans (b.mono q.size)
    replace qB := qB.trans (b.mono qB.size)
    replace r11 := r11.up b
    have k11 : W1.heap.size ≤ g11 ∧ g11 < g12 := by omega
    skip
    refine LL.store (v := .int .i64 0) rfl rfl rfl rfl r11 (by exact Nat.le_of_ble_eq_true rfl) rfl rfl rfl rfl ?_
    intro W r_ gr_ zr_
    have hgl_ := r11.lt
    replace q := q.grown gr_ q.size (by rintro k ⟨⟩; omega)
    replace qB := qB.grown gr_ qB.size (by rintro k ⟨⟩; omega)
    replace r12 := r12.gr gr_ (by have := r12.lt; omega)
    replace r11 := r_
    skip
    refine LL.store (v := .int .i64 0) rfl rfl rfl rfl r12 (by exact Nat.le_of_ble_eq_true rfl) rfl rfl rfl rfl ?_
    intro W r_ gr_ zr_
    have hgl_ := r12.lt
    replace q := q.grown gr_ q.size (by rintro k ⟨⟩; omega)
    replace qB := qB.grown gr_ qB.size (by rintro k ⟨⟩; omega)
    replace r11 := r11.gr gr_ (by have := r11.lt; omega)
    replace r12 := r_
    obtain ⟨X1, rfl⟩ : ∃ X, X = W := ⟨_, rfl⟩
    have yB := qB.size
    have hg12 := r12.lt
    (refine LL.nilS ?_; refine CC.seq ?_; refine CC.seq ?_; refine CC.region ?_; refine LL.val (R.move rfl rfl) rfl rfl rfl ?_; refine LL.nilS ?_; refine CC.block ?_)
    refine CC.rangeZ (γ := Nat) (gf := 50) (lb := [Value.pointer (some ⟨bb, 0, none⟩)]) (encs := encN) rfl rfl hG qB (fun k hk => by have := hDl k hk; omega) (fun _ => rfl) rfl
      (fun m (pre : List (Nat × Ac)) W' => Below W1.heap.size W1 W' ∧ RowL W' g11 3 [.int .i64 (pre.length : Int)] ∧ RowL W' g12 3 [.int .i64 (cntS (L.take pre.length) : Int)] ∧ True)
      (fun m (pre : List (Nat × Ac)) W' => Below W1.heap.size W1 W' ∧ RowL W' g11 3 [.int .i64 (pre.length : Int)] ∧ False)
      (fun W' => Below W1.heap.size W1 W' ∧ ∃ p : Nat, RowL W' g11 3 [.int .i64 (p : Int)] ∧ p = N)
      (fun m m' s X Y hs ht hg => ⟨hs.1.trans (ht.below yB hs.1.size), ht.row hs.2.1 (.inl (by omega)), ht.row hs.2.2.1 (.inl hg12), hs.2.2.2⟩)
      (fun m m' s X Y hs ht hg => ⟨hs.1.trans (ht.below yB hs.1.size), ht.row hs.2.1 (.inl (by omega)), hs.2.2⟩)
      ⟨qB, r11, r12, trivial⟩
      ?hIA ?hIxA
      (fun x g => sl [(3, .pointer (some ⟨g3, 0, none⟩)), (4, .pointer (some ⟨g4, 0, none⟩)), (7, .pointer (some ⟨g7, 0, none⟩)), (10, .pointer (some ⟨gu, 0, none⟩)), (11, .pointer (some ⟨g11, 0, none⟩)), (12, .pointer (some ⟨g12, 0, none⟩)), (13, .int .i64 (x.1 : Int)), (14, .pointer (some ⟨g, 0, none⟩))]) (fun x g W' => RowL W' g 38 (aE x.2) ∧ g12 < g) (fun x g => fun _ W W' row h hg hr => ⟨RowL.own () W W' row h.1 hg hr, h.2⟩) ?assign ?body ?after
    case hIA =>
      rintro m xs W' rfl ⟨h1, h2, _, h3⟩
      have hnl : (numL L).length = N := by unfold numL; rw [preN_len (Nat.le_refl _)]; exact hN
      exact ⟨h1, _, h2, by exact hnl⟩
    case hIxA =>
      rintro m pre W' hp ⟨h1, h2, h3⟩
      exact ⟨h1, pre.length, h2, by exact h3.elim⟩
    case assign =>
      rintro l' m pre x W K hm ⟨h1, h2, h3, h4⟩ hK
      have ySz := h1.size
      (refine CC.seq ?_; refine CC.region ?_; refine LL.val (R.assign rfl rfl) rfl rfl rfl ?_; refine LL.nilS ?_; refine CC.region ?_)
      refine LL.alloc [.int .i64 0, .int .i64 0, .int .u64 0] rfl rfl rfl rfl rfl ?_
      intro W5 g eg r5' z5 b5'
      skip
      refine LL.storeN (vs := aE x.2) rfl rfl rfl rfl r5' (Nat.le_of_ble_eq_true rfl) (aEnc.one x.2) rfl rfl ?_
      intro W6 r6 g6 z6
      have q6 : Below W.heap.size W W6 := b5'.grown g6 (by omega) (by rintro k ⟨⟩; omega)
      (refine LL.nil ?_)
      exact EE.thenK fun a' F => hK a' W6 g (StaysZ.of_below q6) (Keeps.of_below (fun k hk => by have := hDl k hk; omega) q6) ⟨h1.trans (q6.mono h1.size), h2.up q6, h3.up q6, h4⟩ (F.keep _ ⟨rfl, rfl, rfl, rfl, rfl, rfl, rfl, rfl, trivial⟩) ⟨r6, by have := h3.lt; omega⟩
    case body =>
      intro l'' m pre x g W hm hl' hrl hi hax hp
      obtain ⟨h1, h2, h3, h4⟩ := hi
      obtain ⟨hax, hgg⟩ := hax
      have ySz := h1.size
      obtain ⟨hx1, hx2, hx3, _⟩ := numL_part hp
      have hpl : pre.length < N := by omega
      have hcn := cntS_snoc hx2
      have hcl := cntS_le (L.take pre.length)
      rw [List.length_take] at hcl
      have hVr := hV.up h1
      obtain ⟨bl, off, ea, hbl, hcs⟩ := hVr.h7.get aEnc hx2
      subst ea
      have hxd : (pre ++ [x]).length = pre.length + 1 := by simp
      obtain ⟨xk, xa⟩ := x
      simp only at hx2 hx3 hax hcn
      subst hx3
      have hVd := hVr.up (below_drew (w := W))
      have cn : W.drew.cell? ⟨g11, 0, none⟩ = some (.int .i64 (pre.length : Int)) := h2.drew.cell rfl
      have cs : W.drew.cell? ⟨g12, 0, none⟩ = some (.int .i64 (cntS (L.take pre.length) : Int)) := h3.drew.cell rfl
      have cw := hVd.r7.cell (j := 0) rfl
      have caD : Cells W.drew ⟨g, 0, none⟩ (aE xa) := hax.drew.cells rfl
      have hcsD : Cells W.drew ⟨bl, off + pre.length * 3, none⟩ (aE xa) := hcs.below below_drew hbl
      (refine CC.block ?_; refine CC.seq ?_; refine CC.seq ?_)
      refine CC.quiet (by kernel_rfl) (by kernel_rfl) ?_
      (refine SS.val (R.load rfl rfl (I.ld1 rfl (by assumption))) rfl rfl ?_; refine SS.val (R.load rfl rfl (I.ld1 rfl (by assumption))) rfl rfl ?_; refine SS.val (R.len rfl rfl rfl rfl) rfl rfl ?_; refine SS.val (R.geF rfl rfl rfl (by omega)) rfl rfl ?_; refine SS.val (R.move rfl rfl) rfl rfl ?_)
      refine SS.val (R.load rfl rfl (I.ldN (vs := aE xa) rfl rfl caD)) rfl rfl ?_
      (refine SS.val (R.load rfl rfl (I.ld1 rfl (by assumption))) rfl rfl ?_; refine SS.val (R.load rfl rfl (I.ld1 rfl (by assumption))) rfl rfl ?_; refine SS.val (R.index rfl rfl rfl (I.ixS rfl (by omega))) rfl rfl ?_)
      refine SS.val (R.load rfl rfl (I.ldN (vs := aE xa) rfl rfl hcsD)) rfl rfl ?_
      refine SS.val (R.neAct (b := false) rfl rfl rfl (by simp)) rfl rfl ?_
      (refine SS.val (R.pick rfl rfl rfl) rfl rfl ?_; refine SS.val (R.move rfl rfl) rfl rfl ?_; refine SS.val (R.move rfl rfl) rfl rfl ?_; refine SS.val (R.load rfl rfl (I.ld1 rfl (by assumption))) rfl rfl ?_; refine SS.val (R.neF rfl rfl rfl (by omega)) rfl rfl ?_; refine SS.val (R.pick rfl rfl rfl) rfl rfl ?_; refine SS.nilQ ?_)
      (refine EE.thenN ?_; refine CC.no rfl ?_; refine CC.skip ?_; refine EE.thenN ?_; refine CC.seq ?_; refine CC.seq ?_; refine CC.region ?_; refine LL.val (R.field rfl rfl (I.fld rfl)) rfl rfl rfl ?_; refine LL.val (R.load rfl rfl (I.ld1 rfl (RowL.cell (by assumption) rfl))) rfl rfl rfl ?_)
      obtain ⟨kd, at_, vl⟩ := xa
      have ck : W.drew.cell? ⟨g, 0 + 0, none⟩ = some (.int .i64 kd) := hax.drew.cell (j := 0) rfl
      have h1d : Below W1.heap.size W1 W.drew := h1.trans ((below_drew (w := W)).mono h1.size)
      have stD : StaysZ X1.heap.size m W W.drew := StaysZ.of_below below_drew
      have kpD : Keeps (atD vb) W W.drew := Keeps.of_below (fun k hk => by have := hDl k hk; omega) below_drew
      have yd : W.drew.heap.size = W.heap.size := rfl
      by_cases k1 : kd = 1
      case' pos =>
        rw [if_pos k1] at hcn
        (refine LL.val (R.eqT rfl rfl rfl (by omega)) rfl rfl rfl ?_; refine LL.nilS ?_; refine CC.yes rfl ?_; refine CC.region ?_; refine LL.val (R.load rfl rfl (I.ld1 rfl (by assumption))) rfl rfl rfl ?_; refine LL.val (R.addNc rfl rfl rfl rfl (by omega)) rfl rfl rfl ?_)
        refine LL.store rfl rfl rfl rfl h3.drew (by exact Nat.le_of_ble_eq_true rfl) rfl rfl rfl rfl ?_
        intro W3 r12c gr3 z3
        have r12c : RowL W3 g12 3 [.int .i64 (cntS (L.take (pre.length + 1)) : Int)] := by rw [hcn]; exact r12c
        have b3 : Below W1.heap.size W1 W3 := h1d.grown gr3 h1d.size (by rintro k ⟨⟩; omega)
        have st3 := stD.trans (StaysZ.of_grown gr3 hg12)
        have kp3 := kpD.trans (Keeps.of_grown gr3 fun k hk => by have := hDl k hk; omega)
        have r11c := h2.drew.gr gr3 (by omega)
        have c11c := r11c.cell (j := 0) rfl
        (refine LL.nilS ?_; refine CC.seq ?_; refine CC.region ?_; refine LL.val (R.load rfl rfl (I.ld1 rfl (by assumption))) rfl rfl rfl ?_; refine LL.val (R.addNc rfl rfl rfl rfl (by omega)) rfl rfl rfl ?_)
      case' neg =>
        rw [if_neg k1, Nat.add_zero] at hcn
        (refine LL.val (R.eqF rfl rfl rfl (by omega)) rfl rfl rfl ?_; refine LL.nilS ?_; refine CC.no rfl ?_; refine CC.skip ?_; refine EE.thenN ?_; refine CC.seq ?_; refine CC.region ?_; refine LL.val (R.load rfl rfl (I.ld1 rfl (by assumption))) rfl rfl rfl ?_; refine LL.val (R.addNc rfl rfl rfl rfl (by omega)) rfl rfl rfl ?_)
        have r12c : RowL W.drew g12 3 [.int .i64 (cntS (L.take (pre.length + 1)) : Int)] := by rw [hcn]; exact h3.drew
        have r11c := h2.drew
        obtain ⟨W3, hW3⟩ : ∃ X, X = W.drew := ⟨_, rfl⟩
        rw [← hW3] at r12c r11c stD kpD h1d yd ⊢
        have b3 := h1d
        have st3 := stD
        have kp3 := kpD
      all_goals
        refine LL.store rfl rfl rfl rfl r11c (by exact Nat.le_of_ble_eq_true rfl) rfl rfl rfl rfl ?_
        intro W4 r11d gr4 z4
        have b4 : Below W1.heap.size W1 W4 := b3.grown gr4 b3.size (by rintro k ⟨⟩; omega)
        have st4 := st3.trans (StaysZ.of_grown gr4 (by omega))
        have y3 := b3.size
        have kp4 := kp3.trans (Keeps.of_grown gr4 fun k hk => by have := hDl k hk; omega)
        have hV4 := hV.up b4
        have d11 : W4.cell? ⟨g11, 0, none⟩ = some (.int .i64 ((pre.length + 1 : Nat) : Int)) := r11d.cell (j := 0) rfl
        have r11e : RowL W4 g11 3 [.int .i64 ((pre ++ [(cntS (L.take pre.length), (kd, at_, vl))]).length : Int)] := by rw [hxd]; exact r11d
        have r12e : RowL W4 g12 3 [.int .i64 (cntS (L.take (pre ++ [(cntS (L.take pre.length), (kd, at_, vl))]).length) : Int)] := by rw [hxd]; exact r12c.gr gr4 (by omega)
        have d10 := hV4.rt.cell (j := 0) rfl
        have d3 := hV4.r3.cell (j := 0) rfl
        (repeat (first | (first | refine CC.seq ?_ | refine CC.region ?_ | refine LL.nilS ?_ | refine CC.yes rfl ?_ | refine CC.no rfl ?_ | refine CC.block ?_ | refine EE.thenN ?_ | refine LL.nil ?_ | refine CC.exit ?_ | refine CC.ret ?_ | refine CC.skip ?_ | refine EE.thenX ?_ | refine EE.thenR ?_ | refine EE.inN ?_ | refine EE.inX ?_ | refine EE.inX' rfl ?_ | refine EE.inR ?_ | refine CC.label ?_ | refine EE.thenG ?_ | refine EE.inG ?_) | (first | refine LL.val (R.move rfl rfl) rfl rfl rfl ?_ | refine LL.val (R.assign rfl rfl) rfl rfl rfl ?_ | refine LL.val (R.nil rfl rfl) rfl rfl rfl ?_ | refine LL.val (R.field rfl rfl (I.fld rfl)) rfl rfl rfl ?_ | refine LL.val (R.load rfl rfl (I.ld1 rfl (by assumption))) rfl rfl rfl ?_ | refine LL.val (R.load rfl rfl (I.ld1 rfl (RowL.cell (by assumption) rfl))) rfl rfl rfl ?_ | refine LL.val (R.index rfl rfl rfl (I.ixA1c rfl rfl (by first | omega | decide))) rfl rfl rfl ?_ | refine LL.val (R.index rfl rfl rfl (I.ixS1c rfl rfl (by omega))) rfl rfl rfl ?_ | refine LL.val (R.index rfl rfl rfl (I.ixAc rfl rfl (by first | omega | decide))) rfl rfl rfl ?_ | refine LL.val (R.index rfl rfl rfl (I.ixSc rfl rfl (by omega))) rfl rfl rfl ?_ | refine LL.val (R.index rfl rfl rfl (I.ixA1 rfl (by omega))) rfl rfl rfl ?_ | refine LL.val (R.index rfl rfl rfl (I.ixS1 rfl (by omega))) rfl rfl rfl ?_ | refine LL.val (R.index rfl rfl rfl (I.ixA rfl (by omega))) rfl rfl rfl ?_ | refine LL.val (R.index rfl rfl rfl (I.ixS rfl (by omega))) rfl rfl rfl ?_ | refine LL.val (R.ltT rfl rfl rfl (by omega)) rfl rfl rfl ?_ | refine LL.val (R.ltF rfl rfl rfl (by omega)) rfl rfl rfl ?_ | refine LL.val (R.addNc rfl rfl rfl rfl (by omega)) rfl rfl rfl ?_ | refine LL.val (R.subNc rfl rfl rfl rfl (by omega) (by omega)) rfl rfl rfl ?_ | refine LL.val (R.addN rfl rfl rfl (by omega)) rfl rfl rfl ?_ | refine LL.val (R.subN rfl rfl rfl (by omega) (by omega)) rfl rfl rfl ?_ | refine LL.val (R.subcN rfl rfl rfl rfl (by omega) (by omega)) rfl rfl rfl ?_ | refine LL.val (R.addI rfl rfl rfl (by omega)) rfl rfl rfl ?_ | refine LL.val (R.subI rfl rfl rfl (by omega)) rfl rfl rfl ?_ | refine LL.val (R.mulNc rfl rfl rfl rfl (by omega)) rfl rfl rfl ?_ | refine LL.val (R.mulcN rfl rfl rfl rfl (by omega)) rfl rfl rfl ?_ | refine LL.val (R.quoNc rfl rfl rfl rfl (by omega) (by omega)) rfl rfl rfl ?_ | refine LL.val (R.remNc rfl rfl rfl rfl (by omega)) rfl rfl rfl ?_ | refine LL.val (R.mulN rfl rfl rfl (by omega)) rfl rfl rfl ?_ | refine LL.val (R.quoN rfl rfl rfl (by omega) (by omega)) rfl rfl rfl ?_ | refine LL.val (R.remN rfl rfl rfl (by omega)) rfl rfl rfl ?_ | refine LL.val (R.leT rfl rfl rfl (by omega)) rfl rfl rfl ?_ | refine LL.val (R.leF rfl rfl rfl (by omega)) rfl rfl rfl ?_ | refine LL.val (R.gtT rfl rfl rfl (by omega)) rfl rfl rfl ?_ | refine LL.val (R.gtF rfl rfl rfl (by omega)) rfl rfl rfl ?_ | refine LL.val (R.geT rfl rfl rfl (by omega)) rfl rfl rfl ?_ | refine LL.val (R.geF rfl rfl rfl (by omega)) rfl rfl rfl ?_ | refine LL.val (R.eqT rfl rfl rfl (by omega)) rfl rfl rfl ?_ | refine LL.val (R.eqF rfl rfl rfl (by omega)) rfl rfl rfl ?_ | refine LL.val (R.neT rfl rfl rfl (by omega)) rfl rfl rfl ?_ | refine LL.val (R.neF rfl rfl rfl (by omega)) rfl rfl rfl ?_ | refine LL.val (R.eqPtr rfl rfl rfl rfl rfl) rfl rfl rfl ?_ | refine LL.val (R.nePtr rfl rfl rfl rfl rfl) rfl rfl rfl ?_ | refine LL.val (R.eqSl rfl rfl rfl rfl rfl) rfl rfl rfl ?_ | refine LL.val (R.neSl rfl rfl rfl rfl rfl) rfl rfl rfl ?_ | refine LL.val (R.eqFn rfl rfl rfl rfl) rfl rfl rfl ?_ | refine LL.val (R.eqBool rfl rfl rfl rfl rfl) rfl rfl rfl ?_ | refine LL.val (R.neBool rfl rfl rfl rfl rfl) rfl rfl rfl ?_ | refine LL.val (R.xorU rfl rfl rfl (by first | omega | decide) (by first | omega | decide)) rfl rfl rfl ?_ | refine LL.val (R.addUN rfl rfl rfl (by omega)) rfl rfl rfl ?_ | refine LL.val (R.not rfl rfl) rfl rfl rfl ?_ | refine LL.val (R.lenS rfl rfl rfl rfl) rfl rfl rfl ?_ | refine LL.val (R.len rfl rfl rfl rfl) rfl rfl rfl ?_ | refine LL.val (R.pick rfl rfl rfl) rfl rfl rfl ?_ | refine LL.val (R.extract rfl rfl rfl) rfl rfl rfl ?_ | refine LL.val (R.func rfl rfl rfl) rfl rfl rfl ?_ | refine LL.val (R.slice rfl rfl rfl rfl rfl (I.slA rfl)) rfl rfl rfl ?_ | refine LL.val (R.slice rfl rfl rfl rfl rfl (I.slAto rfl (by omega))) rfl rfl rfl ?_) | refine LL.skip rfl rfl ?_))
        exact EE.roundNZ ⟨st4, kp4, b4, r11e, r12e, trivial⟩
    case after =>
      rintro E2 W hE ⟨h1, p, hrp, hcp⟩ hK
      have hVd := hV.up h1
      have c12 : W.cell? ⟨g11, 0, none⟩ = some (.int .i64 (p : Int)) := hrp.cell rfl
      have c9 := hVd.r7.cell (j := 0) rfl
      have c11 := hVd.rt.cell (j := 0) rfl
      have c3 := hVd.r3.cell (j := 0) rfl
      (refine EE.thenN ?_; refine CC.seq ?_; refine CC.region ?_; refine LL.val (R.load rfl rfl (I.ld1 rfl (by assumption))) rfl rfl rfl ?_; refine LL.val (R.eqF rfl rfl rfl (by omega)) rfl rfl rfl ?_; refine LL.val (R.move rfl rfl) rfl rfl rfl ?_; refine LL.skip rfl rfl ?_; refine LL.skip rfl rfl ?_; refine LL.skip rfl rfl ?_; refine LL.skip rfl rfl ?_; refine LL.skip rfl rfl ?_; refine LL.skip rfl rfl ?_; refine LL.skip rfl rfl ?_; refine LL.val (R.pick rfl rfl rfl) rfl rfl rfl ?_; refine LL.val (R.move rfl rfl) rfl rfl rfl ?_; refine LL.val (R.load rfl rfl (I.ld1 rfl (by assumption))) rfl rfl rfl ?_; refine LL.val (R.eqT rfl rfl rfl (by omega)) rfl rfl rfl ?_; refine LL.val (R.move rfl rfl) rfl rfl rfl ?_; refine LL.val (R.load rfl rfl (I.ld1 rfl (by assumption))) rfl rfl rfl ?_; refine LL.val (R.load rfl rfl (I.ld1 rfl (by assumption))) rfl rfl rfl ?_; refine LL.val (R.len rfl rfl rfl rfl) rfl rfl rfl ?_; refine LL.val (R.neF rfl rfl rfl (by omega)) rfl rfl rfl ?_; refine LL.val (R.pick rfl rfl rfl) rfl rfl rfl ?_; refine LL.val (R.pick rfl rfl rfl) rfl rfl rfl ?_; refine LL.nilS ?_; refine CC.no rfl ?_; refine CC.skip ?_; refine EE.inN ?_; refine EE.thenN ?_; refine CC.seq ?_; refine CC.seq ?_; refine CC.region ?_; refine LL.val (R.load rfl rfl (I.ld1 rfl (by assumption))) rfl rfl rfl ?_; refine LL.nilS ?_; refine CC.region ?_)
      have q := hVd.bel
      have hq0 := hVd.bel.size
      have qv := Below.refl W.heap.size W
      have hE2 := hK
      replace hE1 := defer_up hE1 h1
      have hE12 : E1 ≠ E2 := by have := h1.size; omega
      have hE2l := (Array.getElem?_eq_some_iff.1 hK).1
      skip
      refine LL.alloc [.int .i64 0] rfl rfl rfl rfl rfl ?_
      intro W_ gu2 eg ru zg b_
      skip
      refine LL.store (v := .int .i64 1) rfl rfl rfl rfl ru (by exact Nat.le_of_ble_eq_true rfl) rfl rfl rfl rfl ?_
      clear ru
      intro W ru gr_ zr_
      have b := b_.grown gr_ b_.size (by rintro k ⟨⟩; omega)
      clear b_ gr_
      have hsz_ := b.size
      replace q := q.trans (b.mono q.size)
      replace qv := qv.trans (b.mono qv.size)
      replace hE1 := defer_up hE1 b
      replace hE2 := defer_up hE2 b
      (refine LL.nilS ?_; refine CC.region ?_; refine LL.val (R.load rfl rfl (I.ld1 rfl (RowL.cell (by assumption) rfl))) rfl rfl rfl ?_; refine LL.val (R.addI rfl rfl rfl (by omega)) rfl rfl rfl ?_)
      refine LL.store (v := .int .i64 2) rfl rfl rfl rfl ru (by exact Nat.le_of_ble_eq_true rfl) rfl rfl rfl rfl ?_
      intro W r_ gr_ zr_
      have hgl_ := ru.lt
      replace q := q.grown gr_ q.size (by rintro k ⟨⟩; omega)
      replace qv := qv.grown gr_ qv.size (by rintro k ⟨⟩; omega)
      replace ru := r_
      replace hE1 := (gr_.block E1 (Array.getElem?_eq_some_iff.1 hE1).1 (by simp; have := h1.size; omega)).trans hE1
      replace hE2 := (gr_.block E2 (Array.getElem?_eq_some_iff.1 hE2).1 (by simp; omega)).trans hE2
      replace hVd := hVd.up qv
      have hp3 : ReadsT pE 2 _ (.slice a0 l.length cap0) l := hp0.up hVd.bel
      (refine LL.nil ?_)
      refine EE.again ?_
      refine RN.step ?_
      have h5' := hVd.h5
      have r4 := hVd.r4
      have hl4 := hVd.l4
      have hE1z := (Array.getElem?_eq_some_iff.1 hE1).1
      have hE2z := (Array.getElem?_eq_some_iff.1 hE2).1
      have hE24 : g4 ≠ E2 := by have := hV.r4.lt; have := yB; omega
      have hwE1 : w.heap.size ≤ E1 := by omega
      have hwE2 : w.heap.size ≤ E2 := by have := hV.bel.size; omega
      replace q := hVd.bel
      by_cases hk : okPs l = true
      · have hon : (orderN l : Int) = 0 := by unfold orderN; rw [if_pos hk]; rfl
        obtain ⟨hf1, hf2⟩ := order_fine hk
        rw [hL] at hf1 hf2
        rw [hon]
        (refine CC.seq ?_; refine CC.seq ?_; refine CC.region ?_; refine LL.val (R.load rfl rfl (I.ld1 rfl (RowL.cell (by assumption) rfl))) rfl rfl rfl ?_; refine LL.val (R.ltF rfl rfl rfl (by omega)) rfl rfl rfl ?_; refine LL.nilS ?_; refine CC.no rfl ?_; refine CC.exit ?_; refine EE.thenX ?_; refine EE.thenX ?_; refine EE.inX ?_; refine EE.thenN ?_; refine CC.seq ?_; refine CC.region ?_; refine LL.val (R.move rfl rfl) rfl rfl rfl ?_; refine LL.val (R.neF rfl rfl rfl (by omega)) rfl rfl rfl ?_; refine LL.val (R.move rfl rfl) rfl rfl rfl ?_; refine LL.val (R.move rfl rfl) rfl rfl rfl ?_)
        refine LL.call (R.call rfl rfl rfl) rfl rfl rfl (ordered_any _ _ _ h5' (by omega) (fun a ha => order_at (l := l) (by rw [hL]; exact ha) hw hk)) ?_
        rintro e W ⟨rfl, b⟩
        refine ⟨_, rfl, ?_⟩
        have hsz_ := b.size
        replace q := q.trans (b.mono q.size)
        replace h5' := h5'.up b
        replace hp3 := hp3.up b
        replace hE1 := defer_up hE1 b
        replace hE2 := defer_up hE2 b
        replace r4 := r4.up b
        rw [hf1]
        (refine LL.val (R.move rfl rfl) rfl rfl rfl ?_; refine LL.val (R.move rfl rfl) rfl rfl rfl ?_)
        refine LL.call (R.call rfl rfl rfl) rfl rfl rfl (stores_any _ _ _ h5' (by omega)) ?_
        rintro e W ⟨vs, rfl, os, b⟩
        refine ⟨_, rfl, ?_⟩
        have hsz_ := b.size
        replace q := q.trans (b.mono q.size)
        replace hp3 := hp3.up b
        replace hE1 := defer_up hE1 b
        replace hE2 := defer_up hE2 b
        replace r4 := r4.up b
        rw [hf2] at os
        (refine LL.val (R.move rfl rfl) rfl rfl rfl ?_)
        refine LL.call (R.call rfl rfl rfl) rfl rfl rfl (psame_any _ _ _ _ _ (os.reads pEnc) hp3 (by omega) (by omega)) ?_
        rintro e W ⟨rfl, b⟩
        refine ⟨_, rfl, ?_⟩
        have hsz_ := b.size
        replace q := q.trans (b.mono q.size)
        replace hE1 := defer_up hE1 b
        replace hE2 := defer_up hE2 b
        replace r4 := r4.up b
        rw [decide_eq_true rfl]
        (refine LL.val (R.pick rfl rfl rfl) rfl rfl rfl ?_; refine LL.val (R.pick rfl rfl rfl) rfl rfl rfl ?_; refine LL.val (R.move rfl rfl) rfl rfl rfl ?_)
        refine LL.call (R.call rfl rfl rfl) rfl rfl rfl (works_any _) ?_
        rintro e W ⟨rfl, b⟩
        refine ⟨_, rfl, ?_⟩
        have hsz_ := b.size
        replace q := q.trans (b.mono q.size)
        replace hE1 := defer_up hE1 b
        replace hE2 := defer_up hE2 b
        replace r4 := r4.up b
        have hE1y := (Array.getElem?_eq_some_iff.1 hE1).1
        have hE2y := (Array.getElem?_eq_some_iff.1 hE2).1
        (refine LL.val (R.pick rfl rfl rfl) rfl rfl rfl ?_)
        refine LL.store  rfl rfl rfl rfl r4 (by exact Nat.le_of_ble_eq_true rfl) rfl rfl rfl rfl ?_
        intro W r_ gr_ zr_
        have hgl_ := r4.lt
        replace q := q.grown gr_ q.size (by rintro k ⟨⟩; omega)
        replace r4 := r_
        replace hE1 := (gr_.block E1 hE1y (by simp; omega)).trans hE1
        replace hE2 := (gr_.block E2 hE2y (by simp; omega)).trans hE2
        (refine LL.nilS ?_; refine CC.ret ?_)
        refine EE.retNN hE1 hE2 hE12 rfl ⟨_, rfl, lv1 rfl ((taken_up (taken_up r4 hE24) (by omega)).cell rfl)⟩ ?_
        exact ⟨rfl, taken_bel (taken_bel q hwE2 (Nat.le_refl _)) hwE1 (Nat.le_refl _)⟩
      · have hon : (orderN l : Int) = 2 := by unfold orderN; rw [if_neg hk]; rfl
        rw [hon]
        (refine CC.seq ?_; refine CC.seq ?_; refine CC.region ?_; refine LL.val (R.load rfl rfl (I.ld1 rfl (RowL.cell (by assumption) rfl))) rfl rfl rfl ?_; refine LL.val (R.ltF rfl rfl rfl (by omega)) rfl rfl rfl ?_; refine LL.nilS ?_; refine CC.no rfl ?_; refine CC.exit ?_; refine EE.thenX ?_; refine EE.thenX ?_; refine EE.inX ?_; refine EE.thenN ?_; refine CC.seq ?_; refine CC.region ?_; refine LL.val (R.move rfl rfl) rfl rfl rfl ?_; refine LL.val (R.neT rfl rfl rfl (by omega)) rfl rfl rfl ?_; refine LL.val (R.move rfl rfl) rfl rfl rfl ?_; refine LL.skip rfl rfl ?_; refine LL.skip rfl rfl ?_; refine LL.skip rfl rfl ?_; refine LL.skip rfl rfl ?_; refine LL.skip rfl rfl ?_; refine LL.skip rfl rfl ?_; refine LL.skip rfl rfl ?_; refine LL.skip rfl rfl ?_; refine LL.val (R.pick rfl rfl rfl) rfl rfl rfl ?_; refine LL.val (R.move rfl rfl) rfl rfl rfl ?_)
        refine LL.call (R.call rfl rfl rfl) rfl rfl rfl (works_any _) ?_
        rintro e W ⟨rfl, b⟩
        refine ⟨_, rfl, ?_⟩
        have hsz_ := b.size
        replace q := q.trans (b.mono q.size)
        replace hE1 := defer_up hE1 b
        replace hE2 := defer_up hE2 b
        replace r4 := r4.up b
        have hE1y := (Array.getElem?_eq_some_iff.1 hE1).1
        have hE2y := (Array.getElem?_eq_some_iff.1 hE2).1
        (refine LL.val (R.pick rfl rfl rfl) rfl rfl rfl ?_)
        refine LL.store  rfl rfl rfl rfl r4 (by exact Nat.le_of_ble_eq_true rfl) rfl rfl rfl rfl ?_
        intro W r_ gr_ zr_
        have hgl_ := r4.lt
        replace q := q.grown gr_ q.size (by rintro k ⟨⟩; omega)
        replace r4 := r_
        replace hE1 := (gr_.block E1 hE1y (by simp; omega)).trans hE1
        replace hE2 := (gr_.block E2 hE2y (by simp; omega)).trans hE2
        (refine LL.nilS ?_; refine CC.ret ?_)
        refine EE.retNN hE1 hE2 hE12 rfl ⟨_, rfl, lv1 rfl ((taken_up (taken_up r4 hE24) (by omega)).cell rfl)⟩ ?_
        exact ⟨rfl, taken_bel (taken_bel q hwE2 (Nat.le_refl _)) hwE1 (Nat.le_refl _)⟩

end Go.Proofs.Ytcmgpfahpmkeoaa
