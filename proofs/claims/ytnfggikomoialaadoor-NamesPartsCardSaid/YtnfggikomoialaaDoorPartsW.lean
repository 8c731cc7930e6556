/- The walk of NamesParts. -/
import Derived.Test.YtnfggikomoialaaDoorJoinsW
namespace Go.Proofs.YtnfggikomoialaaDoor
set_option linter.unusedVariables false
set_option linter.unusedSimpArgs false
open Go.RowKit Go.Shelf

/-- What lies between two ranges. -/
structure LvN (W w : World) (g3 g4 g7 gt bb : Nat) (many : Int) (v7 : Value) (l : Bs) (tv : Int) : Prop where
  r3 : RowL W g3 3 [.int .i64 many]
  r4 : RowL W g4 4 [.bool false]
  r7 : RowL W g7 28 [v7]
  rt : RowL W gt 3 [.int .i64 tv]
  h7 : ReadsT stE 1 W v7 (partsL l)
  rb : RowL W bb 9 [strV l]
  hm : Mx W
  bel : Below w.heap.size w W
  l4 : w.heap.size ≤ g4
theorem LvN.up {W W' w : World} {g3 g4 g7 gt bb : Nat} {many : Int} {v7 : Value} {l : Bs} {tv : Int} (h : LvN W w g3 g4 g7 gt bb many v7 l tv) (hb : Below W.heap.size W W') : LvN W' w g3 g4 g7 gt bb many v7 l tv :=
  ⟨h.r3.up hb, h.r4.up hb, h.r7.up hb, h.rt.up hb, h.h7.up hb, h.rb.up hb, h.hm.up hb, h.bel.trans (hb.mono h.bel.size), h.l4⟩
theorem LvN.turn {W W' w : World} {g3 g4 g7 gt gt' bb : Nat} {many : Int} {v7 : Value} {l : Bs} {tv tv' : Int} (h : LvN W w g3 g4 g7 gt bb many v7 l tv) (hb : Below W.heap.size W W') (rt : RowL W' gt' 3 [.int .i64 tv']) : LvN W' w g3 g4 g7 gt' bb many v7 l tv' :=
  let h' := h.up hb
  ⟨h'.r3, h'.r4, h'.r7, rt, h'.h7, h'.rb, h'.hm, h'.bel, h'.l4⟩

set_option maxRecDepth 100000 in
set_option maxHeartbeats 8000000 in
theorem parts_walk (s : ByteArray) (many : Int) (w : World) (hm : Mx w) (hl : s.size ≤ 9223372036854775807) :
    Calls Tryd.prog 4 #[.string s, .int .i64 many] w fun e w' => e = .returned (.bool true) ∧ Below w.heap.size w w' := by
  obtain ⟨l, rfl⟩ : ∃ l : Bs, s = ⟨l.toArray⟩ := ⟨s.data.toList, bs_data s⟩
  replace hl : l.length ≤ 9223372036854775807 := by simpa [ByteArray.size] using hl
  show Calls Tryd.prog 4 #[strV l, .int .i64 many] w _
  have q := Below.refl w.heap.size w
  refine X.fnM Tryd.func4 rfl (n := 98) rfl rfl ?_
  (refine CC.seq ?_; refine CC.region ?_)
  refine LL.box [.int .i64 many] rfl rfl rfl rfl rfl ?_
  intro W g3 eg r3 zg b
  have hsz_ := b.size
  replace q := q.trans (b.mono q.size)
  replace hm := hm.up b
  skip
  refine LL.alloc [.bool false] rfl rfl rfl rfl rfl ?_
  intro W g4 eg r4 zg b
  have hsz_ := b.size
  replace q := q.trans (b.mono q.size)
  replace hm := hm.up b
  replace r3 := r3.up b
  have l4 : w.heap.size ≤ g4 := by omega
  by_cases hbad : 2000 < l.length
  · (refine LL.nilS ?_; refine CC.seq ?_; refine CC.seq ?_; refine CC.region ?_; refine LL.val (R.move rfl rfl) rfl rfl rfl ?_; refine LL.val (R.lenS rfl rfl rfl rfl) rfl rfl rfl ?_; refine LL.val (R.gtT rfl rfl rfl (by omega)) rfl rfl rfl ?_; refine LL.nilS ?_; refine CC.yes rfl ?_; refine CC.seq ?_; refine CC.region ?_)
    refine LL.call (R.call rfl rfl rfl) rfl rfl rfl (works_any _ hm) ?_
    rintro e W ⟨rfl, b⟩
    refine ⟨_, rfl, ?_⟩
    have hsz_ := b.size
    replace q := q.trans (b.mono q.size)
    replace r4 := r4.up b
    skip
    refine LL.store  rfl rfl rfl rfl r4 (by exact Nat.le_of_ble_eq_true rfl) rfl rfl rfl rfl ?_
    intro W r_ gr_ zr_
    have hgl_ := r4.lt
    replace q := q.grown gr_ q.size (by rintro k ⟨⟩; omega)
    replace r4 := r_
    (refine LL.nilS ?_; refine CC.ret ?_; refine EE.thenR ?_)
    refine EE.retM1 rfl ⟨_, rfl, lv1 rfl (r4.cell rfl)⟩ ?_
    exact ⟨rfl, q⟩
  obtain ⟨l', hl'⟩ : ∃ l', (if pathN l = 0 then l else []) = l' := ⟨_, rfl⟩
  have hpl : (if pathN l = 0 then partsL l else []) = partsL l' := by
    rw [← hl']
    split
    · rfl
    · rfl
  have hlen : l'.length ≤ 2000 := by
    rw [← hl']
    split
    · omega
    · simp
  have H1 := parts_any l W hm hl
  rw [hpl] at H1
  (refine LL.nilS ?_; refine CC.seq ?_; refine CC.seq ?_; refine CC.region ?_; refine LL.val (R.move rfl rfl) rfl rfl rfl ?_; refine LL.val (R.lenS rfl rfl rfl rfl) rfl rfl rfl ?_; refine LL.val (R.gtF rfl rfl rfl (by omega)) rfl rfl rfl ?_; refine LL.nilS ?_; refine CC.no rfl ?_; refine CC.skip ?_; refine EE.thenN ?_; refine CC.seq ?_; refine CC.region ?_; refine LL.val (R.move rfl rfl) rfl rfl rfl ?_)
  refine LL.call (R.call rfl rfl rfl) rfl rfl rfl (H1) ?_
  rintro e W ⟨v1, rfl, o1, b⟩
  refine ⟨_, rfl, ?_⟩
  have hsz_ := b.size
  replace q := q.trans (b.mono q.size)
  replace hm := hm.up b
  replace r3 := r3.up b
  replace r4 := r4.up b
  have H2 := rparts_any l W hl
  rw [hpl] at H2
  (refine LL.val (R.move rfl rfl) rfl rfl rfl ?_; refine LL.val (R.extract rfl rfl rfl) rfl rfl rfl ?_; refine LL.val (R.extract rfl rfl rfl) rfl rfl rfl ?_; refine LL.val (R.assign rfl rfl) rfl rfl rfl ?_; refine LL.val (R.assign rfl rfl) rfl rfl rfl ?_; refine LL.nilS ?_; refine CC.seq ?_; refine CC.region ?_; refine LL.val (R.move rfl rfl) rfl rfl rfl ?_)
  refine LL.call (R.call rfl rfl rfl) rfl rfl rfl (H2) ?_
  rintro e W ⟨v2, rfl, o2, b⟩
  refine ⟨_, rfl, ?_⟩
  have hsz_ := b.size
  replace q := q.trans (b.mono q.size)
  replace hm := hm.up b
  replace r3 := r3.up b
  replace r4 := r4.up b
  replace o1 := o1.up b
  have h7 := o2.reads stEnc
  obtain ⟨L, hL⟩ : ∃ L, (partsL l').length = L := ⟨_, rfl⟩
  have hLb : L ≤ 2001 := by have := partsL_len l'; omega
  obtain ⟨a7, cp7, rfl, _⟩ := h7.form hL
  (refine LL.val (R.move rfl rfl) rfl rfl rfl ?_; refine LL.val (R.extract rfl rfl rfl) rfl rfl rfl ?_; refine LL.val (R.extract rfl rfl rfl) rfl rfl rfl ?_)
  refine LL.alloc [.slice none 0 0] rfl rfl rfl rfl rfl ?_
  intro W_ g7 eg r7 zg b_
  skip
  refine LL.store  rfl rfl rfl rfl r7 (by exact Nat.le_of_ble_eq_true rfl) rfl rfl rfl rfl ?_
  clear r7
  intro W r7 gr_ zr_
  have b := b_.grown gr_ b_.size (by rintro k ⟨⟩; omega)
  clear b_ gr_
  have hsz_ := b.size
  replace q := q.trans (b.mono q.size)
  replace hm := hm.up b
  replace r3 := r3.up b
  replace r4 := r4.up b
  replace o1 := o1.up b
  replace h7 := h7.up b
  (refine LL.val (R.assign rfl rfl) rfl rfl rfl ?_; refine LL.nilS ?_; refine CC.seq ?_; refine CC.seq ?_; refine CC.region ?_; refine LL.val (R.move rfl rfl) rfl rfl rfl ?_; refine LL.val (R.load rfl rfl (I.ld1 rfl (RowL.cell (by assumption) rfl))) rfl rfl rfl ?_)
  refine LL.call (R.call rfl rfl rfl) rfl rfl rfl (rsame_any _ _ _ _ _ (o1.reads stEnc) h7 (by omega) (by omega)) ?_
  rintro e W ⟨rfl, b⟩
  refine ⟨_, rfl, ?_⟩
  have hsz_ := b.size
  replace q := q.trans (b.mono q.size)
  replace hm := hm.up b
  replace r3 := r3.up b
  replace r4 := r4.up b
  replace r7 := r7.up b
  replace h7 := h7.up b
  rw [decide_eq_true rfl]
  obtain ⟨pn, hpn⟩ : ∃ pn, pathN l = pn := ⟨_, rfl⟩
  have H3 := each_any l W hm hl
  rw [hl'] at H3
  rw [hpn]
  (refine LL.val (R.not rfl rfl) rfl rfl rfl ?_; refine LL.val (R.move rfl rfl) rfl rfl rfl ?_; refine LL.val (R.move rfl rfl) rfl rfl rfl ?_)
  refine LL.call (R.call rfl rfl rfl) rfl rfl rfl (num_any _ _) ?_
  rintro e W ⟨rfl, rfl⟩
  refine ⟨_, rfl, ?_⟩
  (refine LL.val (R.move rfl rfl) rfl rfl rfl ?_; refine LL.val (R.neF rfl rfl rfl (by omega)) rfl rfl rfl ?_; refine LL.val (R.pick rfl rfl rfl) rfl rfl rfl ?_; refine LL.nilS ?_; refine CC.no rfl ?_; refine CC.skip ?_; refine EE.thenN ?_; refine CC.seq ?_; refine CC.region ?_; refine LL.val (R.move rfl rfl) rfl rfl rfl ?_)
  refine LL.call (R.call rfl rfl rfl) rfl rfl rfl (H3) ?_
  rintro e W ⟨bb, rfl, rb, _, b⟩
  refine ⟨_, rfl, ?_⟩
  have hsz_ := b.size
  replace q := q.trans (b.mono q.size)
  replace hm := hm.up b
  replace r3 := r3.up b
  replace r4 := r4.up b
  replace r7 := r7.up b
  replace h7 := h7.up b
  (refine LL.val (R.assign rfl rfl) rfl rfl rfl ?_; refine LL.nilS ?_; refine CC.seq ?_; refine CC.seq ?_; refine CC.region ?_; refine LL.val (R.move rfl rfl) rfl rfl rfl ?_; refine LL.val (R.eqFn rfl rfl rfl rfl) rfl rfl rfl ?_; refine LL.nilS ?_; refine CC.no rfl ?_; refine CC.skip ?_; refine EE.thenN ?_; refine CC.seq ?_; refine CC.seq ?_; refine CC.region ?_)
  refine LL.alloc [.int .i64 0] rfl rfl rfl rfl rfl ?_
  intro W_ gt eg rt zg b_
  skip
  refine LL.store (v := .int .i64 0) rfl rfl rfl rfl rt (by exact Nat.le_of_ble_eq_true rfl) rfl rfl rfl rfl ?_
  clear rt
  intro W rt gr_ zr_
  have b := b_.grown gr_ b_.size (by rintro k ⟨⟩; omega)
  clear b_ gr_
  have hsz_ := b.size
  replace q := q.trans (b.mono q.size)
  replace hm := hm.up b
  replace r3 := r3.up b
  replace r4 := r4.up b
  replace r7 := r7.up b
  replace h7 := h7.up b
  replace rb := rb.up b
  have hV : LvN W w g3 g4 g7 gt bb many (.slice a7 L cp7) l' 0 := ⟨r3, r4, r7, rt, h7, rb, hm, q, l4⟩
  obtain ⟨W0, rfl⟩ : ∃ X, X = W := ⟨_, rfl⟩
  clear o1 o2 r3 r4 r7 rt h7 rb hm
  (refine LL.nilS ?_; refine CC.block ?_)
  refine CC.keep [(3, .pointer (some ⟨g3, 0, none⟩)), (4, .pointer (some ⟨g4, 0, none⟩)), (7, .pointer (some ⟨g7, 0, none⟩)), (9, .func (.func 44) #[] [Value.pointer (some ⟨bb, 0, none⟩)].toArray), (10, .pointer (some ⟨gt, 0, none⟩))] ⟨rfl, rfl, rfl, rfl, rfl, trivial⟩ ?_
  refine CC.loopN 3 ?_
  refine RN.step ?_
  -- turn 0
  have hT := hV.rt
  have hG := pieces_gives bb l' W0 hV.rb hV.hm (by omega)
  have qB := Below.refl W0.heap.size W0
  have q := hV.bel
  (refine CC.seq ?_; refine CC.seq ?_; refine CC.region ?_; refine LL.val (R.load rfl rfl (I.ld1 rfl (RowL.cell (by assumption) rfl))) rfl rfl rfl ?_; refine LL.val (R.ltT rfl rfl rfl (by omega)) rfl rfl rfl ?_; refine LL.nilS ?_; refine CC.yes rfl ?_; refine CC.skip ?_; refine EE.thenN ?_; refine CC.seq ?_; refine CC.block ?_; refine CC.seq ?_; refine CC.region ?_)
  refine LL.alloc [.int .i64 0] rfl rfl rfl rfl rfl ?_
  intro W_ g11 eg r11 zg b_
  skip
  refine LL.store (v := .int .i64 0) rfl rfl rfl rfl r11 (by exact Nat.le_of_ble_eq_true rfl) rfl rfl rfl rfl ?_
  clear r11
  intro W r11 gr_ zr_
  have b := b_.grown gr_ b_.size (by rintro k ⟨⟩; omega)
  clear b_ gr_
  have hsz_ := b.size
  replace q := q.trans (b.mono q.size)
  replace qB := qB.trans (b.mono qB.size)
  obtain ⟨X0, rfl⟩ : ∃ X, X = W := ⟨_, rfl⟩
  have yB := qB.size
  have hg11 := r11.lt
  (refine LL.nilS ?_; refine CC.seq ?_; refine CC.seq ?_; refine CC.region ?_; refine LL.val (R.move rfl rfl) rfl rfl rfl ?_; refine LL.nilS ?_; refine CC.block ?_)
  refine CC.rangeM (γ := Unit) (gf := 44) (lb := [Value.pointer (some ⟨bb, 0, none⟩)]) (encs := encP) rfl rfl hG qB (fun k hk => hk.elim) (fun _ => rfl) rfl
    (fun m pre W' => Below W0.heap.size W0 W' ∧ RowL W' g11 3 [.int .i64 (pre.length : Int)] ∧ (pre.length = 0 ∨ (pre.length : Int) < many))
    (fun m pre W' => Below W0.heap.size W0 W' ∧ RowL W' g11 3 [.int .i64 (pre.length : Int)] ∧ (many ≤ pre.length ∧ (pre.length = 1 ∨ (pre.length : Int) - 1 < many) ∧ 1 ≤ pre.length ∧ pre.length ≤ L))
    (fun W' => Below W0.heap.size W0 W' ∧ ∃ p : Nat, RowL W' g11 3 [.int .i64 (p : Int)] ∧ ((p : Int) = if (if 1 < many then many else 1) < (L : Int) then (if 1 < many then many else 1) else (L : Int)))
    (fun m s X Y hs ht => ⟨hs.1.trans (ht.below yB hs.1.size), ht.same g11 _ hs.2.1 (.inl hg11), hs.2.2⟩)
    (fun m s X Y hs ht => ⟨hs.1.trans (ht.below yB hs.1.size), ht.same g11 _ hs.2.1 (.inl hg11), hs.2.2⟩)
    (fun m => ⟨qB, r11, .inl rfl⟩)
    ?hIA ?hIxA
    (fun x _ => sl [(3, .pointer (some ⟨g3, 0, none⟩)), (7, .pointer (some ⟨g7, 0, none⟩)), (10, .pointer (some ⟨gt, 0, none⟩)), (11, .pointer (some ⟨g11, 0, none⟩)), (12, .int .i64 (x.1 : Int)), (13, strV x.2)]) (fun x _ W' => True) (fun x _ => fun _ _ _ _ _ _ _ => trivial) ?assign ?body ?after
  case hIA =>
    rintro m xs W' rfl ⟨h1, h2, h3⟩
    have hnl : (numB (partsL l')).length = L := by rw [numB_len]; exact hL
    exact ⟨h1, _, h2, by rw [hnl] at h3 ⊢; rcases h3 with h3 | h3 <;> split <;> split <;> omega⟩
  case hIxA =>
    rintro m pre W' hp ⟨h1, h2, h3⟩
    exact ⟨h1, pre.length, h2, by split <;> split <;> omega⟩
  case assign =>
    intro l' m pre x W K hm hm2 hi hK
    (refine CC.seq ?_; refine CC.region ?_; refine LL.val (R.assign rfl rfl) rfl rfl rfl ?_; refine LL.nilS ?_; refine CC.region ?_; refine LL.val (R.assign rfl rfl) rfl rfl rfl ?_; refine LL.nil ?_)
    exact EE.thenK fun a' F => hK a' W () (Stays.refl _ _ _) (Keeps.refl _ _) hi (F.keep _ ⟨rfl, rfl, rfl, rfl, rfl, rfl, trivial⟩) trivial
  case body =>
    intro l'' m pre x _ W hm hm2 hl' hrl hi hax hp
    obtain ⟨h1, h2, h3⟩ := hi
    obtain ⟨hx1, hx, _⟩ := numB_part hp
    have hpl : pre.length < L := by rw [← hL]; exact (List.getElem?_eq_some_iff.1 hx).1
    have hVr := hV.up h1
    obtain ⟨bl, off, ea, hbl, hcs⟩ := ReadsT.one stEnc hVr.h7 hx
    subst ea
    have hc1 := hcs _ rfl
    have c11 : W.cell? ⟨g11, 0, none⟩ = some (.int .i64 (pre.length : Int)) := h2.cell rfl
    have c7 := hVr.r7.cell (j := 0) rfl
    have c10 := hVr.rt.cell (j := 0) rfl
    have c3 := hVr.r3.cell (j := 0) rfl
    rw [hx1]
    (refine CC.block ?_; refine CC.seq ?_; refine CC.seq ?_; refine CC.region ?_; refine LL.val (R.move rfl rfl) rfl rfl rfl ?_; refine LL.val (R.load rfl rfl (I.ld1 rfl (by assumption))) rfl rfl rfl ?_; refine LL.val (R.neF rfl rfl rfl (by omega)) rfl rfl rfl ?_; refine LL.val (R.move rfl rfl) rfl rfl rfl ?_; refine LL.val (R.load rfl rfl (I.ld1 rfl (by assumption))) rfl rfl rfl ?_; refine LL.val (R.load rfl rfl (I.ld1 rfl (by assumption))) rfl rfl rfl ?_; refine LL.val (R.len rfl rfl rfl rfl) rfl rfl rfl ?_; refine LL.val (R.geF rfl rfl rfl (by omega)) rfl rfl rfl ?_; refine LL.val (R.pick rfl rfl rfl) rfl rfl rfl ?_; refine LL.val (R.move rfl rfl) rfl rfl rfl ?_; refine LL.val (R.move rfl rfl) rfl rfl rfl ?_; refine LL.val (R.load rfl rfl (I.ld1 rfl (by assumption))) rfl rfl rfl ?_; refine LL.val (R.load rfl rfl (I.ld1 rfl (by assumption))) rfl rfl rfl ?_; refine LL.val (R.index rfl rfl rfl (I.ixS1 rfl (by omega))) rfl rfl rfl ?_; refine LL.val (R.load rfl rfl (I.ld1 rfl (by assumption))) rfl rfl rfl ?_)
    refine LL.val (R.neS (c := false) rfl rfl rfl (by simp)) rfl rfl rfl ?_
    (refine LL.val (R.pick rfl rfl rfl) rfl rfl rfl ?_; refine LL.nilS ?_; refine CC.no rfl ?_; refine CC.skip ?_; refine EE.thenN ?_; refine CC.seq ?_; refine CC.region ?_; refine LL.val (R.load rfl rfl (I.ld1 rfl (by assumption))) rfl rfl rfl ?_; refine LL.val (R.addNc rfl rfl rfl rfl (by omega)) rfl rfl rfl ?_)
    refine LL.store rfl rfl rfl rfl h2 (by exact Nat.le_of_ble_eq_true rfl) rfl rfl rfl rfl ?_
    intro w7 r7' g7' z7
    have hb7 : Below W0.heap.size W0 w7 := h1.grown g7' h1.size (by rintro k ⟨⟩; omega)
    have hV7 := hV.up hb7
    have hst7 : Stays X0.heap.size m W w7 := Stays.of_grown g7' hg11
    have hkp7 : Keeps (fun _ => False) W w7 := ⟨g7'.size, fun k hk => hk.elim⟩
    have hlen' : (pre ++ [x]).length = pre.length + 1 := by simp
    have d12 : w7.cell? ⟨g11, 0, none⟩ = some (.int .i64 ((pre.length + 1 : Nat) : Int)) := r7'.cell rfl
    have r7 : RowL w7 g11 3 [.int .i64 ((pre ++ [x]).length : Int)] := by rw [hlen']; exact r7'
    have d11 := hV7.rt.cell (j := 0) rfl
    have d3 := hV7.r3.cell (j := 0) rfl
    by_cases hmany : many ≤ (pre.length : Int) + 1
    · (refine LL.nilS ?_; refine CC.seq ?_; refine CC.region ?_; refine LL.val (R.load rfl rfl (I.ld1 rfl (by assumption))) rfl rfl rfl ?_; refine LL.val (R.eqT rfl rfl rfl (by omega)) rfl rfl rfl ?_; refine LL.val (R.move rfl rfl) rfl rfl rfl ?_; refine LL.val (R.load rfl rfl (I.ld1 rfl (by assumption))) rfl rfl rfl ?_; refine LL.val (R.load rfl rfl (I.ld1 rfl (by assumption))) rfl rfl rfl ?_; refine LL.val (R.geT rfl rfl rfl (by omega)) rfl rfl rfl ?_; refine LL.val (R.pick rfl rfl rfl) rfl rfl rfl ?_; refine LL.nilS ?_; refine CC.yes rfl ?_; refine CC.exit ?_; refine EE.inX' rfl ?_)
      exact EE.roundX ⟨hst7, rfl, hb7, r7, by rw [hlen']; omega, by rw [hlen']; omega, by rw [hlen']; omega, by rw [hlen']; omega⟩
    · (refine LL.nilS ?_; refine CC.seq ?_; refine CC.region ?_; refine LL.val (R.load rfl rfl (I.ld1 rfl (by assumption))) rfl rfl rfl ?_; refine LL.val (R.eqT rfl rfl rfl (by omega)) rfl rfl rfl ?_; refine LL.val (R.move rfl rfl) rfl rfl rfl ?_; refine LL.val (R.load rfl rfl (I.ld1 rfl (by assumption))) rfl rfl rfl ?_; refine LL.val (R.load rfl rfl (I.ld1 rfl (by assumption))) rfl rfl rfl ?_; refine LL.val (R.geF rfl rfl rfl (by omega)) rfl rfl rfl ?_; refine LL.val (R.pick rfl rfl rfl) rfl rfl rfl ?_; refine LL.nilS ?_; refine CC.no rfl ?_; refine CC.skip ?_; refine EE.inN ?_)
      exact EE.roundN ⟨hst7, hkp7, hb7, r7, .inr (by rw [hlen']; omega)⟩
  case after =>
    rintro E1 W hE ⟨h1, p, hrp, hcp⟩ hK
    have hVd := hV.up h1
    have c12 : W.cell? ⟨g11, 0, none⟩ = some (.int .i64 (p : Int)) := hrp.cell rfl
    have c9 := hVd.r7.cell (j := 0) rfl
    have c11 := hVd.rt.cell (j := 0) rfl
    have c3 := hVd.r3.cell (j := 0) rfl
    (refine EE.thenN ?_; refine CC.seq ?_; refine CC.region ?_; refine LL.val (R.load rfl rfl (I.ld1 rfl (by assumption))) rfl rfl rfl ?_; refine LL.val (R.eqT rfl rfl rfl (by omega)) rfl rfl rfl ?_; refine LL.val (R.move rfl rfl) rfl rfl rfl ?_; refine LL.val (R.load rfl rfl (I.ld1 rfl (by assumption))) rfl rfl rfl ?_; refine LL.val (R.load rfl rfl (I.ld1 rfl (by assumption))) rfl rfl rfl ?_; refine LL.val (R.len rfl rfl rfl rfl) rfl rfl rfl ?_; refine LL.val (R.load rfl rfl (I.ld1 rfl (by assumption))) rfl rfl rfl ?_)
    refine LL.val (R.max rfl rfl) rfl rfl rfl ?_
    refine LL.val (R.min rfl rfl) rfl rfl rfl ?_
    obtain ⟨zz, hzz⟩ : ∃ zz : Int, (if (if 1 < many then many else 1) < (L : Int) then (if 1 < many then many else 1) else (L : Int)) = zz := ⟨_, rfl⟩
    rw [hzz] at hcp ⊢
    have q := hVd.bel
    have hq0 := hVd.bel.size
    have qv := Below.refl W.heap.size W
    have hE1 := hK
    (refine LL.val (R.neF rfl rfl rfl (by omega)) rfl rfl rfl ?_; refine LL.val (R.pick rfl rfl rfl) rfl rfl rfl ?_; refine LL.val (R.move rfl rfl) rfl rfl rfl ?_; refine LL.val (R.load rfl rfl (I.ld1 rfl (by assumption))) rfl rfl rfl ?_; refine LL.val (R.eqF rfl rfl rfl (by omega)) rfl rfl rfl ?_; refine LL.val (R.move rfl rfl) rfl rfl rfl ?_; refine LL.skip rfl rfl ?_; refine LL.skip rfl rfl ?_; refine LL.skip rfl rfl ?_; refine LL.skip rfl rfl ?_; refine LL.val (R.pick rfl rfl rfl) rfl rfl rfl ?_; refine LL.val (R.pick rfl rfl rfl) rfl rfl rfl ?_; refine LL.nilS ?_; refine CC.no rfl ?_; refine CC.skip ?_; refine EE.inN ?_; refine EE.thenN ?_; refine CC.seq ?_; refine CC.seq ?_; refine CC.region ?_; refine LL.val (R.load rfl rfl (I.ld1 rfl (by assumption))) rfl rfl rfl ?_; refine LL.nilS ?_; refine CC.region ?_)
    refine LL.alloc [.int .i64 0] rfl rfl rfl rfl rfl ?_
    intro W_ gu eg ru zg b_
    skip
    refine LL.store (v := .int .i64 0) rfl rfl rfl rfl ru (by exact Nat.le_of_ble_eq_true rfl) rfl rfl rfl rfl ?_
    clear ru
    intro W ru gr_ zr_
    have b := b_.grown gr_ b_.size (by rintro k ⟨⟩; omega)
    clear b_ gr_
    have hsz_ := b.size
    replace q := q.trans (b.mono q.size)
    replace qv := qv.trans (b.mono qv.size)
    replace hE1 := defer_up hE1 b
    have hE1l := (Array.getElem?_eq_some_iff.1 hK).1
    (refine LL.nilS ?_; refine CC.region ?_; refine LL.val (R.load rfl rfl (I.ld1 rfl (RowL.cell (by assumption) rfl))) rfl rfl rfl ?_; refine LL.val (R.addI rfl rfl rfl (by omega)) rfl rfl rfl ?_)
    refine LL.store (v := .int .i64 1) rfl rfl rfl rfl ru (by exact Nat.le_of_ble_eq_true rfl) rfl rfl rfl rfl ?_
    intro W r_ gr_ zr_
    have hgl_ := ru.lt
    replace q := q.grown gr_ q.size (by rintro k ⟨⟩; omega)
    replace qv := qv.grown gr_ qv.size (by rintro k ⟨⟩; omega)
    replace ru := r_
    replace hE1 := (gr_.block E1 (by omega) (by simp; omega)).trans hE1
    replace hV := hVd.turn qv ru
    have hE1l := (Array.getElem?_eq_some_iff.1 hE1).1
    have hg4l := hV.r4.lt
    have hE14 : g4 < E1 := by have := hVd.r4.lt; have := yB; omega
    clear hVd c12 c9 c11 c3 hcp hrp h1 r11 hT qB
    obtain ⟨W1, rfl⟩ : ∃ X, X = W := ⟨_, rfl⟩
    (refine LL.nil ?_)
    refine EE.again ?_
    refine RN.keep [(3, .pointer (some ⟨g3, 0, none⟩)), (4, .pointer (some ⟨g4, 0, none⟩)), (7, .pointer (some ⟨g7, 0, none⟩)), (9, .func (.func 44) #[] [Value.pointer (some ⟨bb, 0, none⟩)].toArray), (10, .pointer (some ⟨gu, 0, none⟩))] ⟨rfl, rfl, rfl, rfl, rfl, trivial⟩ ?_
    refine RN.step ?_
    -- turn 1
    have hT := hV.rt
    have hG := pieces_gives bb l' W1 hV.rb hV.hm (by omega)
    have qB := Below.refl W1.heap.size W1
    have q := hV.bel
    (refine CC.seq ?_; refine CC.seq ?_; refine CC.region ?_; refine LL.val (R.load rfl rfl (I.ld1 rfl (RowL.cell (by assumption) rfl))) rfl rfl rfl ?_; refine LL.val (R.ltT rfl rfl rfl (by omega)) rfl rfl rfl ?_; refine LL.nilS ?_; refine CC.yes rfl ?_; refine CC.skip ?_; refine EE.thenN ?_; refine CC.seq ?_; refine CC.block ?_; refine CC.seq ?_; refine CC.region ?_)
    refine LL.alloc [.int .i64 0] rfl rfl rfl rfl rfl ?_
    intro W_ g11 eg r11 zg b_
    skip
    refine LL.store (v := .int .i64 0) rfl rfl rfl rfl r11 (by exact Nat.le_of_ble_eq_true rfl) rfl rfl rfl rfl ?_
    clear r11
    intro W r11 gr_ zr_
    have b := b_.grown gr_ b_.size (by rintro k ⟨⟩; omega)
    clear b_ gr_
    have hsz_ := b.size
    replace q := q.trans (b.mono q.size)
    replace qB := qB.trans (b.mono qB.size)
    obtain ⟨X1, rfl⟩ : ∃ X, X = W := ⟨_, rfl⟩
    have yB := qB.size
    have hg11 := r11.lt
    (refine LL.nilS ?_; refine CC.seq ?_; refine CC.seq ?_; refine CC.region ?_; refine LL.val (R.move rfl rfl) rfl rfl rfl ?_; refine LL.nilS ?_; refine CC.block ?_)
    refine CC.rangeM (γ := Unit) (gf := 44) (lb := [Value.pointer (some ⟨bb, 0, none⟩)]) (encs := encP) rfl rfl hG qB (fun k hk => hk.elim) (fun _ => rfl) rfl
      (fun m pre W' => Below W1.heap.size W1 W' ∧ RowL W' g11 3 [.int .i64 (pre.length : Int)] ∧ True)
      (fun m pre W' => Below W1.heap.size W1 W' ∧ RowL W' g11 3 [.int .i64 (pre.length : Int)] ∧ False)
      (fun W' => Below W1.heap.size W1 W' ∧ ∃ p : Nat, RowL W' g11 3 [.int .i64 (p : Int)] ∧ p = L)
      (fun m s X Y hs ht => ⟨hs.1.trans (ht.below yB hs.1.size), ht.same g11 _ hs.2.1 (.inl hg11), hs.2.2⟩)
      (fun m s X Y hs ht => ⟨hs.1.trans (ht.below yB hs.1.size), ht.same g11 _ hs.2.1 (.inl hg11), hs.2.2⟩)
      (fun m => ⟨qB, r11, trivial⟩)
      ?hIA ?hIxA
      (fun x _ => sl [(3, .pointer (some ⟨g3, 0, none⟩)), (7, .pointer (some ⟨g7, 0, none⟩)), (10, .pointer (some ⟨gu, 0, none⟩)), (11, .pointer (some ⟨g11, 0, none⟩)), (12, .int .i64 (x.1 : Int)), (13, strV x.2)]) (fun x _ W' => True) (fun x _ => fun _ _ _ _ _ _ _ => trivial) ?assign ?body ?after
    case hIA =>
      rintro m xs W' rfl ⟨h1, h2, h3⟩
      have hnl : (numB (partsL l')).length = L := by rw [numB_len]; exact hL
      exact ⟨h1, _, h2, by exact hnl⟩
    case hIxA =>
      rintro m pre W' hp ⟨h1, h2, h3⟩
      exact ⟨h1, pre.length, h2, by exact h3.elim⟩
    case assign =>
      intro l' m pre x W K hm hm2 hi hK
      (refine CC.seq ?_; refine CC.region ?_; refine LL.val (R.assign rfl rfl) rfl rfl rfl ?_; refine LL.nilS ?_; refine CC.region ?_; refine LL.val (R.assign rfl rfl) rfl rfl rfl ?_; refine LL.nil ?_)
      exact EE.thenK fun a' F => hK a' W () (Stays.refl _ _ _) (Keeps.refl _ _) hi (F.keep _ ⟨rfl, rfl, rfl, rfl, rfl, rfl, trivial⟩) trivial
    case body =>
      intro l'' m pre x _ W hm hm2 hl' hrl hi hax hp
      obtain ⟨h1, h2, h3⟩ := hi
      obtain ⟨hx1, hx, _⟩ := numB_part hp
      have hpl : pre.length < L := by rw [← hL]; exact (List.getElem?_eq_some_iff.1 hx).1
      have hVr := hV.up h1
      obtain ⟨bl, off, ea, hbl, hcs⟩ := ReadsT.one stEnc hVr.h7 hx
      subst ea
      have hc1 := hcs _ rfl
      have c11 : W.cell? ⟨g11, 0, none⟩ = some (.int .i64 (pre.length : Int)) := h2.cell rfl
      have c7 := hVr.r7.cell (j := 0) rfl
      have c10 := hVr.rt.cell (j := 0) rfl
      have c3 := hVr.r3.cell (j := 0) rfl
      rw [hx1]
      (refine CC.block ?_; refine CC.seq ?_; refine CC.seq ?_; refine CC.region ?_; refine LL.val (R.move rfl rfl) rfl rfl rfl ?_; refine LL.val (R.load rfl rfl (I.ld1 rfl (by assumption))) rfl rfl rfl ?_; refine LL.val (R.neF rfl rfl rfl (by omega)) rfl rfl rfl ?_; refine LL.val (R.move rfl rfl) rfl rfl rfl ?_; refine LL.val (R.load rfl rfl (I.ld1 rfl (by assumption))) rfl rfl rfl ?_; refine LL.val (R.load rfl rfl (I.ld1 rfl (by assumption))) rfl rfl rfl ?_; refine LL.val (R.len rfl rfl rfl rfl) rfl rfl rfl ?_; refine LL.val (R.geF rfl rfl rfl (by omega)) rfl rfl rfl ?_; refine LL.val (R.pick rfl rfl rfl) rfl rfl rfl ?_; refine LL.val (R.move rfl rfl) rfl rfl rfl ?_; refine LL.val (R.move rfl rfl) rfl rfl rfl ?_; refine LL.val (R.load rfl rfl (I.ld1 rfl (by assumption))) rfl rfl rfl ?_; refine LL.val (R.load rfl rfl (I.ld1 rfl (by assumption))) rfl rfl rfl ?_; refine LL.val (R.index rfl rfl rfl (I.ixS1 rfl (by omega))) rfl rfl rfl ?_; refine LL.val (R.load rfl rfl (I.ld1 rfl (by assumption))) rfl rfl rfl ?_)
      refine LL.val (R.neS (c := false) rfl rfl rfl (by simp)) rfl rfl rfl ?_
      (refine LL.val (R.pick rfl rfl rfl) rfl rfl rfl ?_; refine LL.nilS ?_; refine CC.no rfl ?_; refine CC.skip ?_; refine EE.thenN ?_; refine CC.seq ?_; refine CC.region ?_; refine LL.val (R.load rfl rfl (I.ld1 rfl (by assumption))) rfl rfl rfl ?_; refine LL.val (R.addNc rfl rfl rfl rfl (by omega)) rfl rfl rfl ?_)
      refine LL.store rfl rfl rfl rfl h2 (by exact Nat.le_of_ble_eq_true rfl) rfl rfl rfl rfl ?_
      intro w7 r7' g7' z7
      have hb7 : Below W1.heap.size W1 w7 := h1.grown g7' h1.size (by rintro k ⟨⟩; omega)
      have hV7 := hV.up hb7
      have hst7 : Stays X1.heap.size m W w7 := Stays.of_grown g7' hg11
      have hkp7 : Keeps (fun _ => False) W w7 := ⟨g7'.size, fun k hk => hk.elim⟩
      have hlen' : (pre ++ [x]).length = pre.length + 1 := by simp
      have d12 : w7.cell? ⟨g11, 0, none⟩ = some (.int .i64 ((pre.length + 1 : Nat) : Int)) := r7'.cell rfl
      have r7 : RowL w7 g11 3 [.int .i64 ((pre ++ [x]).length : Int)] := by rw [hlen']; exact r7'
      have d11 := hV7.rt.cell (j := 0) rfl
      have d3 := hV7.r3.cell (j := 0) rfl
      (refine LL.nilS ?_; refine CC.seq ?_; refine CC.region ?_; refine LL.val (R.load rfl rfl (I.ld1 rfl (by assumption))) rfl rfl rfl ?_; refine LL.val (R.eqF rfl rfl rfl (by omega)) rfl rfl rfl ?_; refine LL.val (R.move rfl rfl) rfl rfl rfl ?_; refine LL.skip rfl rfl ?_; refine LL.skip rfl rfl ?_; refine LL.skip rfl rfl ?_; refine LL.val (R.pick rfl rfl rfl) rfl rfl rfl ?_; refine LL.nilS ?_; refine CC.no rfl ?_; refine CC.skip ?_; refine EE.inN ?_)
      exact EE.roundN ⟨hst7, hkp7, hb7, r7, trivial⟩
    case after =>
      rintro E2 W hE ⟨h1, p, hrp, hcp⟩ hK
      have hVd := hV.up h1
      have c12 : W.cell? ⟨g11, 0, none⟩ = some (.int .i64 (p : Int)) := hrp.cell rfl
      have c9 := hVd.r7.cell (j := 0) rfl
      have c11 := hVd.rt.cell (j := 0) rfl
      have c3 := hVd.r3.cell (j := 0) rfl
      (refine EE.thenN ?_; refine CC.seq ?_; refine CC.region ?_; refine LL.val (R.load rfl rfl (I.ld1 rfl (by assumption))) rfl rfl rfl ?_; refine LL.val (R.eqF rfl rfl rfl (by omega)) rfl rfl rfl ?_; refine LL.val (R.move rfl rfl) rfl rfl rfl ?_; refine LL.skip rfl rfl ?_; refine LL.skip rfl rfl ?_; refine LL.skip rfl rfl ?_; refine LL.skip rfl rfl ?_; refine LL.skip rfl rfl ?_; refine LL.skip rfl rfl ?_; refine LL.skip rfl rfl ?_; refine LL.val (R.pick rfl rfl rfl) rfl rfl rfl ?_; refine LL.val (R.move rfl rfl) rfl rfl rfl ?_; refine LL.val (R.load rfl rfl (I.ld1 rfl (by assumption))) rfl rfl rfl ?_; refine LL.val (R.eqT rfl rfl rfl (by omega)) rfl rfl rfl ?_; refine LL.val (R.move rfl rfl) rfl rfl rfl ?_; refine LL.val (R.load rfl rfl (I.ld1 rfl (by assumption))) rfl rfl rfl ?_; refine LL.val (R.load rfl rfl (I.ld1 rfl (by assumption))) rfl rfl rfl ?_; refine LL.val (R.len rfl rfl rfl rfl) rfl rfl rfl ?_; refine LL.val (R.neF rfl rfl rfl (by omega)) rfl rfl rfl ?_; refine LL.val (R.pick rfl rfl rfl) rfl rfl rfl ?_; refine LL.val (R.pick rfl rfl rfl) rfl rfl rfl ?_; refine LL.nilS ?_; refine CC.no rfl ?_; refine CC.skip ?_; refine EE.inN ?_; refine EE.thenN ?_; refine CC.seq ?_; refine CC.seq ?_; refine CC.region ?_; refine LL.val (R.load rfl rfl (I.ld1 rfl (by assumption))) rfl rfl rfl ?_; refine LL.nilS ?_; refine CC.region ?_)
      have q := hVd.bel
      have hq0 := hVd.bel.size
      have qv := Below.refl W.heap.size W
      have hE2 := hK
      replace hE1 := defer_up hE1 h1
      have hE12 : E1 ≠ E2 := by have := h1.size; omega
      skip
      refine LL.alloc [.int .i64 0] rfl rfl rfl rfl rfl ?_
      intro W_ gu2 eg ru zg b_
      skip
      refine LL.store (v := .int .i64 1) rfl rfl rfl rfl ru (by exact Nat.le_of_ble_eq_true rfl) rfl rfl rfl rfl ?_
      clear ru
      intro W ru gr_ zr_
      have b := b_.grown gr_ b_.size (by rintro k ⟨⟩; omega)
      clear b_ gr_
      have hsz_ := b.size
      replace q := q.trans (b.mono q.size)
      replace qv := qv.trans (b.mono qv.size)
      replace hE1 := defer_up hE1 b
      replace hE2 := defer_up hE2 b
      have hE2l := (Array.getElem?_eq_some_iff.1 hK).1
      (refine LL.nilS ?_; refine CC.region ?_; refine LL.val (R.load rfl rfl (I.ld1 rfl (RowL.cell (by assumption) rfl))) rfl rfl rfl ?_; refine LL.val (R.addI rfl rfl rfl (by omega)) rfl rfl rfl ?_)
      refine LL.store (v := .int .i64 2) rfl rfl rfl rfl ru (by exact Nat.le_of_ble_eq_true rfl) rfl rfl rfl rfl ?_
      intro W r_ gr_ zr_
      have hgl_ := ru.lt
      replace q := q.grown gr_ q.size (by rintro k ⟨⟩; omega)
      replace qv := qv.grown gr_ qv.size (by rintro k ⟨⟩; omega)
      replace ru := r_
      replace hE1 := (gr_.block E1 (Array.getElem?_eq_some_iff.1 hE1).1 (by simp; have := h1.size; omega)).trans hE1
      replace hE2 := (gr_.block E2 (Array.getElem?_eq_some_iff.1 hE2).1 (by simp; omega)).trans hE2
      replace hVd := hVd.up qv
      (refine LL.nil ?_)
      refine EE.again ?_
      refine RN.step ?_
      (refine CC.seq ?_; refine CC.seq ?_; refine CC.region ?_; refine LL.val (R.load rfl rfl (I.ld1 rfl (RowL.cell (by assumption) rfl))) rfl rfl rfl ?_; refine LL.val (R.ltF rfl rfl rfl (by omega)) rfl rfl rfl ?_; refine LL.nilS ?_; refine CC.no rfl ?_; refine CC.exit ?_; refine EE.thenX ?_; refine EE.thenX ?_; refine EE.inX ?_; refine EE.thenN ?_; refine CC.seq ?_; refine CC.region ?_)
      refine LL.call (R.call rfl rfl rfl) rfl rfl rfl (works_any _ hVd.hm) ?_
      rintro e W ⟨rfl, b⟩
      refine ⟨_, rfl, ?_⟩
      have hsz_ := b.size
      replace q := q.trans (b.mono q.size)
      replace hVd := hVd.up b
      replace hE1 := defer_up hE1 b
      replace hE2 := defer_up hE2 b
      have r4 := hVd.r4
      have hl4 := hVd.l4
      have hE1z := (Array.getElem?_eq_some_iff.1 hE1).1
      have hE2z := (Array.getElem?_eq_some_iff.1 hE2).1
      have hE24 : g4 ≠ E2 := by have := hV.r4.lt; have := yB; omega
      have hwE1 : w.heap.size ≤ E1 := by omega
      have hwE2 : w.heap.size ≤ E2 := by have := hV.bel.size; omega
      skip
      refine LL.store  rfl rfl rfl rfl r4 (by exact Nat.le_of_ble_eq_true rfl) rfl rfl rfl rfl ?_
      intro W r_ gr_ zr_
      have hgl_ := r4.lt
      replace q := q.grown gr_ q.size (by rintro k ⟨⟩; omega)
      replace r4 := r_
      replace hE1 := (gr_.block E1 hE1z (by simp; omega)).trans hE1
      replace hE2 := (gr_.block E2 hE2z (by simp; omega)).trans hE2
      (refine LL.nilS ?_; refine CC.ret ?_)
      refine EE.retNN hE1 hE2 hE12 rfl ⟨_, rfl, lv1 rfl ((taken_up (taken_up r4 hE24) (by omega)).cell rfl)⟩ ?_
      exact ⟨rfl, taken_bel (taken_bel q hwE2 (Nat.le_refl _)) hwE1 (Nat.le_refl _)⟩
end Go.Proofs.YtnfggikomoialaaDoor

