/- bitmap: spans, first. -/
import Derived.Test.YtojoaplbgcdapaaSpans
import Derived.Test.YtojoaplbgcdapaaMesh
import Derived.Test.YtojoaplbgcdapaaTNew
namespace Go.Proofs.Ytojoaplbgcdapaa
set_option linter.unusedVariables false
set_option linter.unusedSimpArgs false
open Go.RowKit Go.Shelf

theorem lvT {P : Program} {w : World} {p : Addr} {v : Value} {t : TypeId} (hT : oneB P t = true) (hc : w.cell? p = some v) : (loadVar t p).run P w = .ok v w := lv1 hT hc
set_option maxRecDepth 100000 in
theorem spans_any {K : Nat → Prop} {g bits : Nat} {v : Value} {ws : List Nat} (set : Bool) (fr : Nat) (w : World) (h : BmAt w K g v bits ws) (hfr : fr ≤ bits) :
    Calls Try.prog 38 #[.pointer (some ⟨g, 0, none⟩), .bool set, .int .i64 (fr : Int)] w fun e w' => ∃ b3 b4 b5, e = .returned (.func (.func 50) #[] [Value.pointer (some ⟨b5, 0, none⟩), .pointer (some ⟨b3, 0, none⟩), .pointer (some ⟨b4, 0, none⟩)].toArray) ∧
      SpAt w' g b3 b4 v bits ws set ∧ RowL w' b5 3 [.int .i64 (fr : Int)] ∧ w.heap.size ≤ b3 ∧ w.heap.size ≤ b4 ∧ w.heap.size ≤ b5 ∧ Below w.heap.size w w' := by
  refine X.fn Try.func38 rfl (n := 8) rfl rfl ?_
  (refine CC.seq ?_; refine CC.region ?_)
  refine LL.box [.pointer (some ⟨g, 0, none⟩)] rfl rfl rfl rfl rfl ?_
  intro w1 g1 e1 r1 z1 b1
  refine LL.box [.bool set] rfl rfl rfl rfl rfl ?_
  intro w2 g2 e2 r2 z2 b2
  refine LL.box [.int .i64 (fr : Int)] rfl rfl rfl rfl rfl ?_
  intro w3 g3 e3 r3 z3 b3
  have y1 := b1.size
  have y2 := b2.size
  have q2 : Below w.heap.size w w2 := b1.trans (b2.mono y1)
  have q3 : Below w.heap.size w w3 := q2.trans (b3.mono q2.size)
  have h3 := h.below q3
  (refine LL.val (R.assign rfl rfl) rfl rfl rfl ?_; refine LL.nilS ?_; refine CC.seq ?_; refine CC.region ?_; refine LL.val (R.func rfl rfl rfl) rfl rfl rfl ?_; refine LL.val (R.assign rfl rfl) rfl rfl rfl ?_; refine LL.nilS ?_; refine CC.ret ?_)
  refine EE.ret _ rfl rfl ?_
  exact ⟨g1, g2, g3, rfl, ⟨h3.row, h3.list, (r1.below b2 r1.lt).below b3 (by have := r1.lt; omega), r2.below b3 r2.lt, h.hi, h.len, h.wf⟩, r3, by omega, by omega, by omega, q3⟩

/-- The first run of so many. -/
def firstP (P : Nat → Bool) (fr n many : Nat) : Option Rn := (runsP P fr n).find? fun r => decide (many ≤ r.2)
theorem find_part {l pre : List Rn} {x : Rn} {many : Nat} (hp : Part (fun xs => xs = l) (pre ++ [x])) (hno : ∀ r ∈ pre, r.2 < many) (hx : many ≤ x.2) : l.find? (fun r => decide (many ≤ r.2)) = some x := by
  obtain ⟨_, rfl, t, rfl⟩ := hp
  rw [List.append_assoc, List.find?_append]
  have : pre.find? (fun r => decide (many ≤ r.2)) = none := List.find?_eq_none.2 fun r hr => by
    have := hno r hr
    simp only [decide_eq_true_eq]
    omega
  rw [this]
  simp [hx]
theorem find_none {l : List Rn} {many : Nat} (hno : ∀ r ∈ l, r.2 < many) : l.find? (fun r => decide (many ≤ r.2)) = none := List.find?_eq_none.2 fun r hr => by
  have := hno r hr
  simp only [decide_eq_true_eq]
  omega
/-- What it tells. -/
def atP (o : Option Rn) : Nat := match o with | some r => r.1 | none => 0
theorem runsP_hi {p : Nat → Bool} {a n : Nat} {pre : List Rn} {x : Rn} (hp : Part (fun xs => xs = runsP p a n) (pre ++ [x])) : x.1 + x.2 ≤ a + n := by
  obtain ⟨_, rfl, t, ht⟩ := hp
  exact (runsP_in n x (by rw [← ht]; simp)).2.2

set_option maxRecDepth 100000 in
set_option maxHeartbeats 4000000 in
theorem first_any {K : Nat → Prop} {g bits : Nat} {v : Value} {ws : List Nat} (many fr : Nat) (w : World) (h : BmAt w K g v bits ws) (hfr : fr ≤ bits) :
    Calls Try.prog 36 #[.pointer (some ⟨g, 0, none⟩), .int .i64 (many : Int), .int .i64 (fr : Int)] w fun e w' => e = .returned (.tuple #[.int .i64 (atP (firstP (fun i => wb ws i == false) fr (bits - fr) many) : Int), .bool (firstP (fun i => wb ws i == false) fr (bits - fr) many).isSome]) ∧ Below w.heap.size w w' := by
  have hhi := h.hi
  obtain ⟨P, hP⟩ : ∃ P : Nat → Bool, (fun i => wb ws i == false) = P := ⟨_, rfl⟩
  refine X.fnM Try.func36 rfl (n := 21) rfl rfl ?_
  (refine CC.seq ?_; refine CC.region ?_)
  refine LL.box [.int .i64 (many : Int)] rfl rfl rfl rfl rfl ?_
  intro w1 g4 e1 r1 z1 b1
  refine LL.alloc [.int .i64 0] rfl rfl rfl rfl rfl ?_
  intro w2 g6 e2 r2 z2 b2
  refine LL.alloc [.bool false] rfl rfl rfl rfl rfl ?_
  intro w3 g7 e3 r3 z3 b3
  have y1 := b1.size
  have y2 := b2.size
  have q2 : Below w.heap.size w w2 := b1.trans (b2.mono y1)
  have q3 : Below w.heap.size w w3 := q2.trans (b3.mono q2.size)
  have h3 := h.below q3
  have r43 := (r1.below b2 r1.lt).below b3 (by have := r1.lt; omega)
  have r63 := r2.below b3 r2.lt
  (refine LL.nilS ?_)
  refine CC.straight ?_
  (refine CC.seq ?_; refine CC.label ?_; refine EE.thenN ?_; refine CC.seq ?_; refine CC.seq ?_; refine CC.region ?_; refine LL.val (R.move rfl rfl) rfl rfl rfl ?_; refine LL.val (R.move rfl rfl) rfl rfl rfl ?_)
  refine LL.call (R.call rfl rfl rfl) rfl rfl rfl (spans_any false fr w3 h3 hfr) ?_
  rintro e w4 ⟨b3', b4', b5', rfl, hS, h5, l3, l4, l5, b4⟩
  refine ⟨_, rfl, ?_⟩
  have y4 := b4.size
  have r44 := r43.below b4 r43.lt
  have r64 := r63.below b4 r63.lt
  have r74 := r3.below b4 r3.lt
  have q4 : Below w.heap.size w w4 := q3.trans (b4.mono q3.size)
  have hSl := hS.lt
  have hg4l := r44.lt
  have hg6l := r64.lt
  have hg7l := r74.lt
  have hnd : ∀ k, spD g b3' b4' v k → k ≠ g6 ∧ k ≠ g7 := by
    rintro k (rfl | rfl | rfl | hk)
    · have := h.row.lt; exact ⟨by omega, by omega⟩
    · exact ⟨by omega, by omega⟩
    · exact ⟨by omega, by omega⟩
    · rcases h.list.above with h0 | ⟨b, h0, _, h2⟩
      · rw [h0] at hk; cases hk
      · rw [h0] at hk; cases hk; exact ⟨by omega, by omega⟩
  have hG := spans_gives (b5 := b5') fr w4 hS h5 hfr
  rw [hP] at hG ⊢
  have tail : ∀ (E : Nat) (W : World) (o : Option Rn), w4.heap.size ≤ E → Below w.heap.size w W → RowL W g6 3 [.int .i64 (atP o : Int)] → RowL W g7 4 [.bool o.isSome] → W.heap[E]? = some (.deferred (some [])) → Below w.heap.size w (taken E W) ∧ RowL (taken E W) g6 3 [.int .i64 (atP o : Int)] ∧ RowL (taken E W) g7 4 [.bool o.isSome] := fun E W o hE hb h6 h7 hK => by
    have gt : W.grownBy (taken E W) (some E) := grownBy_putObj' _ _ _
    exact ⟨taken_bel hb (by have := q4.size; omega) (Nat.le_refl _), h6.same (gt.block g6 h6.lt (by simp; omega)), h7.same (gt.block g7 h7.lt (by simp; omega))⟩
  (refine LL.nilS ?_; refine CC.block ?_)
  refine CC.rangeM (γ := Nat) (gf := 50) (lb := [Value.pointer (some ⟨b5', 0, none⟩), .pointer (some ⟨b3', 0, none⟩), .pointer (some ⟨b4', 0, none⟩)]) (encs := encR) rfl rfl hG (Below.refl _ _) hSl (fun _ => rfl) rfl
    (fun m pre W' => Below w.heap.size w W' ∧ RowL W' g4 3 [.int .i64 (many : Int)] ∧ RowL W' g6 3 [.int .i64 0] ∧ RowL W' g7 4 [.bool false] ∧ ∀ r ∈ pre, r.2 < many)
    (fun m pre W' => Below w.heap.size w W' ∧ RowL W' g6 3 [.int .i64 (atP (firstP P fr (bits - fr) many) : Int)] ∧ RowL W' g7 4 [.bool (firstP P fr (bits - fr) many).isSome])
    (fun W' => Below w.heap.size w W' ∧ RowL W' g6 3 [.int .i64 (atP (firstP P fr (bits - fr) many) : Int)] ∧ RowL W' g7 4 [.bool (firstP P fr (bits - fr) many).isSome])
    ?hI ?hIx (fun m => ⟨q4, r44, r64, r74, fun r hr => by cases hr⟩) ?hIA ?hIxA
    (fun x g8 => sl [(4, .pointer (some ⟨g4, 0, none⟩)), (6, .pointer (some ⟨g6, 0, none⟩)), (7, .pointer (some ⟨g7, 0, none⟩)), (8, .pointer (some ⟨g8, 0, none⟩))]) (fun x g8 W' => RowL W' g8 57 (rE x)) (fun x g8 => RowL.own) ?assign ?body ?after
  case hI =>
    rintro m s X Y ⟨h1, h2, h3, h4, h5⟩ ht
    exact ⟨h1.trans (ht.below q4.size h1.size), ht.same g4 _ h2 (.inl hg4l), ht.same g6 _ h3 (.inl hg6l), ht.same g7 _ h4 (.inl hg7l), h5⟩
  case hIx =>
    rintro m s X Y ⟨h1, h2, h3⟩ ht
    exact ⟨h1.trans (ht.below q4.size h1.size), ht.same g6 _ h2 (.inl hg6l), ht.same g7 _ h3 (.inl hg7l)⟩
  case hIA =>
    rintro m xs W' rfl ⟨h1, h2, h3, h4, h5⟩
    have e0 : firstP P fr (bits - fr) many = none := find_none h5
    rw [e0]
    exact ⟨h1, h3, h4⟩
  case hIxA => exact fun m pre W' hp hi => hi
  case assign =>
    intro l' m pre x Wr K hm hm2 hi hK
    obtain ⟨h1, h2, h3, h4, h5⟩ := hi
    (refine CC.region ?_)
    refine LL.alloc (rE (0, 0)) rfl rfl rfl rfl rfl ?_
    intro w5 g5 e5 r5 z5 b5
    skip
    refine LL.storeN (vs := rE x) rfl rfl rfl rfl r5 (Nat.le_of_ble_eq_true rfl) (rEnc.one x) rfl rfl ?_
    intro w6 r6 g6' z6
    have q6 : Below Wr.heap.size Wr w6 := b5.grown g6' (by omega) (by rintro k ⟨⟩; omega)
    (refine LL.nil ?_)
    exact EE.thenK fun a' F => hK a' w6 g5 (Stays.of_below q6) (Keeps.of_below (fun k hk => by have := hSl k hk; omega) q6) ⟨h1.trans (q6.mono h1.size), h2.below q6 h2.lt, h3.below q6 h3.lt, h4.below q6 h4.lt, h5⟩ (F.keep _ ⟨rfl, rfl, rfl, rfl, trivial⟩) r6
  case body =>
    intro l' m pre x g8 Wr hm hm2 hl' hrl hi hax hp
    obtain ⟨h1, h2, h3, h4, h5⟩ := hi
    have hx := runsP_hi hp
    have c8 : Wr.cell? ⟨g8, 1, none⟩ = some (.int .i64 (x.2 : Int)) := hax.cell rfl
    have c80 : Wr.cell? ⟨g8, 0, none⟩ = some (.int .i64 (x.1 : Int)) := hax.cell rfl
    by_cases hge : many ≤ x.2
    · (refine CC.block ?_; refine CC.seq ?_; refine CC.region ?_; refine LL.val (R.field rfl rfl (I.fld rfl)) rfl rfl rfl ?_; refine LL.val (R.load rfl rfl (I.ld1 rfl (by assumption))) rfl rfl rfl ?_; refine LL.val (R.load rfl rfl (I.ld1 rfl (RowL.cell (by assumption) rfl))) rfl rfl rfl ?_; refine LL.val (R.geT rfl rfl rfl (by omega)) rfl rfl rfl ?_; refine LL.nilS ?_; refine CC.yes rfl ?_; refine CC.seq ?_; refine CC.region ?_; refine LL.val (R.field rfl rfl (I.fld rfl)) rfl rfl rfl ?_; refine LL.val (R.load rfl rfl (I.ld1 rfl (by assumption))) rfl rfl rfl ?_)
      refine LL.store rfl rfl rfl rfl h3 (by exact Nat.le_of_ble_eq_true rfl) rfl rfl rfl rfl ?_
      intro w5 r5 g5 z5
      refine LL.store rfl rfl rfl rfl (h4.same (g5.block g7 h4.lt (by simp; omega))) (by exact Nat.le_of_ble_eq_true rfl) rfl rfl rfl rfl ?_
      intro w6 r6 g6' z6
      have e0 : firstP P fr (bits - fr) many = some x := find_part hp h5 hge
      (refine LL.nilS ?_; refine CC.exit ?_; refine EE.inX' rfl ?_)
      refine EE.roundX ⟨(Stays.of_grown g5 hg6l).trans (Stays.of_grown g6' hg7l), rfl, ?_⟩
      rw [e0]
      exact ⟨(h1.grown g5 h1.size (by rintro k ⟨⟩; omega)).grown g6' (by have := h1.size; omega) (by rintro k ⟨⟩; omega), r5.same (g6'.block g6 r5.lt (by simp; omega)), r6⟩
    · (refine CC.block ?_; refine CC.seq ?_; refine CC.region ?_; refine LL.val (R.field rfl rfl (I.fld rfl)) rfl rfl rfl ?_; refine LL.val (R.load rfl rfl (I.ld1 rfl (by assumption))) rfl rfl rfl ?_; refine LL.val (R.load rfl rfl (I.ld1 rfl (RowL.cell (by assumption) rfl))) rfl rfl rfl ?_; refine LL.val (R.geF rfl rfl rfl (by omega)) rfl rfl rfl ?_; refine LL.nilS ?_; refine CC.no rfl ?_; refine CC.skip ?_; refine EE.inN ?_)
      refine EE.roundN ⟨Stays.refl _ _ _, Keeps.refl _ _, h1, h2, h3, h4, fun r hr => ?_⟩
      rcases List.mem_append.1 hr with h | h
      · exact h5 r h
      · simp only [List.mem_singleton] at h
        subst h
        omega
  case after =>
    rintro E Wd hE ⟨h1, h2, h3⟩ hK
    obtain ⟨o, ho⟩ : ∃ o, firstP P fr (bits - fr) many = o := ⟨_, rfl⟩
    rw [ho] at h2 h3 ⊢
    have okd : (fun w' => Below Wd.heap.size Wd w' ∨ True) Wd.drew := .inr trivial
    have ok0 : RowL Wd.drew g6 3 [.int .i64 (atP o : Int)] ∧ RowL Wd.drew g7 4 [.bool o.isSome] ∧ Wd.drew.heap[E]? = some (.deferred (some [])) ∧ Below w.heap.size w Wd.drew := ⟨h2.drew, h3.drew, hK, h1.drew⟩
    (refine EE.thenN ?_; refine CC.seq ?_)
    refine CC.free (fun w' => RowL w' g6 3 [.int .i64 (atP o : Int)] ∧ RowL w' g7 4 [.bool o.isSome] ∧ w'.heap[E]? = some (.deferred (some [])) ∧ Below w.heap.size w w') (by kernel_rfl) rfl ?_
    refine AA.pure 0 rfl (by assumption) (by kernel_rfl) (fun w' hw' => R.load rfl rfl (I.ld1 rfl (hw'.1.cell rfl))) rfl rfl ?_
    refine AA.pure 1 rfl (by assumption) (by kernel_rfl) (fun w' hw' => R.load rfl rfl (I.ld1 rfl (hw'.2.1.cell rfl))) rfl rfl ?_
    refine AA.one 2 (by kernel_rfl) ?_
    refine SR.store rfl rfl rfl rfl rfl ok0.1 (by exact Nat.le_of_ble_eq_true rfl) rfl rfl rfl rfl ?_
    intro w5 r5 g5 z5
    have ok5 : RowL w5 g6 3 [.int .i64 (atP o : Int)] ∧ RowL w5 g7 4 [.bool o.isSome] ∧ w5.heap[E]? = some (.deferred (some [])) ∧ Below w.heap.size w w5 := ⟨r5, ok0.2.1.same (g5.block g7 ok0.2.1.lt (by simp; omega)), (g5.block E (Array.getElem?_eq_some_iff.1 ok0.2.2.1).1 (by simp; omega)).trans ok0.2.2.1, ok0.2.2.2.grown g5 ok0.2.2.2.size (by rintro k ⟨⟩; omega)⟩
    refine ⟨ok5, ?_⟩
    refine AA.one 3 (by kernel_rfl) ?_
    refine SR.store rfl rfl rfl rfl rfl ok5.2.1 (by exact Nat.le_of_ble_eq_true rfl) rfl rfl rfl rfl ?_
    intro w6 r6 g6' z6
    have ok6 : RowL w6 g6 3 [.int .i64 (atP o : Int)] ∧ RowL w6 g7 4 [.bool o.isSome] ∧ w6.heap[E]? = some (.deferred (some [])) ∧ Below w.heap.size w w6 := ⟨ok5.1.same (g6'.block g6 ok5.1.lt (by simp; omega)), r6, (g6'.block E (Array.getElem?_eq_some_iff.1 ok5.2.2.1).1 (by simp; omega)).trans ok5.2.2.1, ok5.2.2.2.grown g6' ok5.2.2.2.size (by rintro k ⟨⟩; omega)⟩
    refine ⟨ok6, ?_⟩
    refine AA.done (by kernel_rfl) ?_
    obtain ⟨t1, t2, t3⟩ := tail E w6 o hE ok6.2.2.2 ok6.1 ok6.2.1 ok6.2.2.1
    (refine EE.thenN ?_; refine CC.ret ?_)
    refine EE.noR ?_
    refine EE.retN2 ok6.2.2.1 rfl ⟨_, rfl, lv1 rfl (t2.cell rfl)⟩ ⟨_, rfl, lv1 rfl (t3.cell rfl)⟩ ?_
    exact ⟨rfl, t1⟩
end Go.Proofs.Ytojoaplbgcdapaa
