/- names: check, Parts, Each. -/
import Derived.Test.YtnfggikomoialaaDoorNm2
import Derived.Test.YtnfggikomoialaaDoorFwd
namespace Go.Proofs.YtnfggikomoialaaDoor
set_option linter.unusedVariables false
set_option linter.unusedSimpArgs false
open Go.RowKit Go.Shelf

def wideL (l : Bs) : Bool := (partsL l).any fun p => decide (120 < p.length)
/-- Why a text is no path. -/
def pathN (l : Bs) : Nat := if 1000 < l.length then 3 else if (!decide (l.head? = some 47)) || decide (0 ∈ l) then 140 else if wideL l then 141 else 0
theorem prefix_any (l : Bs) (w : World) : Calls Tryd.prog 43 #[strV l, strV [47]] w fun e w' => e = .returned (.bool (decide (l.head? = some 47))) ∧ w = w' :=
  (Tryd.strings_HasPrefix ⟨l.toArray⟩ ⟨#[47]⟩ w).mono fun e w' ⟨he, hw⟩ => ⟨by
    rw [he]
    show Ending.returned (.bool (([47] : Bs).isPrefixOf l)) = _
    cases l with
    | nil => rfl
    | cons b l =>
      congr 2
      rw [Bool.eq_iff_iff]
      simp [List.isPrefixOf]
      exact ⟨fun h => h.symm, fun h => h.symm⟩, hw.symm⟩

set_option maxRecDepth 100000 in
set_option maxHeartbeats 4000000 in
theorem pcheck_any (l : Bs) (w : World) (hm : Mx w) (hl : l.length ≤ 9223372036854775807) :
    Calls Tryd.prog 29 #[strV l] w fun e w' => e = .returned (.int .i64 (pathN l : Int)) ∧ Below w.heap.size w w' := by
  refine X.fnM Tryd.func29 rfl (n := 24) rfl rfl ?_
  have q := Below.refl w.heap.size w
  (refine CC.seq ?_; refine CC.region ?_)
  refine LL.alloc [.int .i64 0] rfl rfl rfl rfl rfl ?_
  intro W g2 eg r2 zg b
  have hsz_ := b.size
  replace q := q.trans (b.mono q.size)
  replace hm := hm.up b
  have hg2 : w.heap.size ≤ g2 := by omega
  (refine LL.nilS ?_)
  refine CC.fwd (l := 0) (α := Option Nat) (fun x => match x with | none => [] | some E => [mark E]) (fun _ => [(2, .pointer (some ⟨g2, 0, none⟩))]) (fun x w' => Below w.heap.size w w' ∧ RowL w' g2 24 [.int .i64 (pathN l : Int)] ∧ match x with | none => True | some E => g2 < E ∧ w'.heap[E]? = some (.deferred (some []))) rfl ?first ?pass
  case pass =>
    rintro x W ⟨q, r2, hx⟩
    have c2 := r2.cell (j := 0) rfl
    cases x with
    | none =>
      (refine CC.seq ?_; refine CC.skip ?_; refine EE.thenN ?_; refine CC.seq ?_; refine CC.region ?_; refine LL.val (R.load rfl rfl (I.ld1 rfl (by assumption))) rfl rfl rfl ?_)
      refine LL.store  rfl rfl rfl rfl r2 (by exact Nat.le_of_ble_eq_true rfl) rfl rfl rfl rfl ?_
      intro W r_ gr_ zr_
      have hgl_ := r2.lt
      replace q := q.grown gr_ q.size (by rintro k ⟨⟩; omega)
      replace r2 := r_
      (refine LL.nilS ?_; refine CC.ret ?_)
      refine EE.jumpR ?_
      refine EE.retM1 rfl ⟨_, rfl, lv1 rfl (r2.cell rfl)⟩ ?_
      exact ⟨rfl, q⟩
    | some E =>
      obtain ⟨hgE, hE1⟩ := hx
      (refine CC.seq ?_; refine CC.skip ?_; refine EE.thenN ?_; refine CC.seq ?_; refine CC.region ?_; refine LL.val (R.load rfl rfl (I.ld1 rfl (by assumption))) rfl rfl rfl ?_)
      refine LL.store  rfl rfl rfl rfl r2 (by exact Nat.le_of_ble_eq_true rfl) rfl rfl rfl rfl ?_
      intro W r_ gr_ zr_
      have hgl_ := r2.lt
      replace q := q.grown gr_ q.size (by rintro k ⟨⟩; omega)
      replace r2 := r_
      replace hE1 := (gr_.block E (Array.getElem?_eq_some_iff.1 hE1).1 (by simp; omega)).trans hE1
      (refine LL.nilS ?_; refine CC.ret ?_)
      refine EE.jumpR ?_
      refine EE.retN1 hE1 rfl ⟨_, rfl, lv1 rfl ((taken_up r2 (by omega)).cell rfl)⟩ ?_
      exact ⟨rfl, taken_bel q (by omega) (Nat.le_refl _)⟩
  case first =>
    by_cases h1 : 1000 < l.length
    · have e0 : pathN l = 3 := by unfold pathN; rw [if_pos h1]
      (refine CC.seq ?_; refine CC.seq ?_; refine CC.region ?_; refine LL.val (R.move rfl rfl) rfl rfl rfl ?_; refine LL.val (R.lenS rfl rfl rfl rfl) rfl rfl rfl ?_; refine LL.val (R.gtT rfl rfl rfl (by omega)) rfl rfl rfl ?_; refine LL.nilS ?_; refine CC.yes rfl ?_; refine CC.seq ?_; refine CC.region ?_)
      refine LL.store  rfl rfl rfl rfl r2 (by exact Nat.le_of_ble_eq_true rfl) rfl rfl rfl rfl ?_
      intro W r_ gr_ zr_
      have hgl_ := r2.lt
      replace q := q.grown gr_ q.size (by rintro k ⟨⟩; omega)
      replace r2 := r_
      (refine LL.nilS ?_)
      refine CC.goto ?_
      refine EE.thenG ?_
      exact EE.jumpTo none rfl ⟨rfl, trivial⟩ ⟨q, by rw [e0]; exact r2, trivial⟩
    (refine CC.seq ?_; refine CC.seq ?_; refine CC.region ?_; refine LL.val (R.move rfl rfl) rfl rfl rfl ?_; refine LL.val (R.lenS rfl rfl rfl rfl) rfl rfl rfl ?_; refine LL.val (R.gtF rfl rfl rfl (by omega)) rfl rfl rfl ?_; refine LL.nilS ?_; refine CC.no rfl ?_; refine CC.skip ?_; refine EE.thenN ?_; refine CC.seq ?_; refine CC.seq ?_; refine CC.region ?_; refine LL.val (R.move rfl rfl) rfl rfl rfl ?_)
    refine LL.call (R.call rfl rfl rfl) rfl rfl rfl (prefix_any l _) ?_
    rintro e W ⟨rfl, rfl⟩
    refine ⟨_, rfl, ?_⟩
    cases h2 : decide (l.head? = some 47) with
    | false =>
      have e0 : pathN l = 140 := by unfold pathN; rw [if_neg h1, h2]; rfl
      (refine LL.val (R.not rfl rfl) rfl rfl rfl ?_; refine LL.val (R.move rfl rfl) rfl rfl rfl ?_; refine LL.skip rfl rfl ?_; refine LL.skip rfl rfl ?_; refine LL.skip rfl rfl ?_; refine LL.val (R.pick rfl rfl rfl) rfl rfl rfl ?_; refine LL.nilS ?_; refine CC.yes rfl ?_; refine CC.seq ?_; refine CC.region ?_)
      refine LL.store  rfl rfl rfl rfl r2 (by exact Nat.le_of_ble_eq_true rfl) rfl rfl rfl rfl ?_
      intro W r_ gr_ zr_
      have hgl_ := r2.lt
      replace q := q.grown gr_ q.size (by rintro k ⟨⟩; omega)
      replace r2 := r_
      (refine LL.nilS ?_)
      refine CC.goto ?_
      refine EE.thenG ?_
      exact EE.jumpTo none rfl ⟨rfl, trivial⟩ ⟨q, by rw [e0]; exact r2, trivial⟩
    | true =>
      (refine LL.val (R.not rfl rfl) rfl rfl rfl ?_; refine LL.val (R.move rfl rfl) rfl rfl rfl ?_; refine LL.val (R.move rfl rfl) rfl rfl rfl ?_)
      refine LL.call (R.call rfl rfl rfl) rfl rfl rfl (idx_any l _) ?_
      rintro e W ⟨rfl, rfl⟩
      refine ⟨_, rfl, ?_⟩
      have hmem := idx_mem l 0
      by_cases h3 : (0 : UInt8) ∈ l
      · have h4 := hmem.2 h3
        have e0 : pathN l = 140 := by unfold pathN; rw [if_neg h1, h2]; simp [h3]
        (refine LL.val (R.geT rfl rfl rfl (by omega)) rfl rfl rfl ?_; refine LL.val (R.pick rfl rfl rfl) rfl rfl rfl ?_; refine LL.nilS ?_; refine CC.yes rfl ?_; refine CC.seq ?_; refine CC.region ?_)
        refine LL.store  rfl rfl rfl rfl r2 (by exact Nat.le_of_ble_eq_true rfl) rfl rfl rfl rfl ?_
        intro W r_ gr_ zr_
        have hgl_ := r2.lt
        replace q := q.grown gr_ q.size (by rintro k ⟨⟩; omega)
        replace r2 := r_
        (refine LL.nilS ?_)
        refine CC.goto ?_
        refine EE.thenG ?_
        exact EE.jumpTo none rfl ⟨rfl, trivial⟩ ⟨q, by rw [e0]; exact r2, trivial⟩
      · have h4 : Lib.indexByte l 0 < 0 := by
          rcases Int.lt_or_le (Lib.indexByte l 0) 0 with h | h
          · exact h
          · exact absurd (hmem.1 h) h3
        have e0 : pathN l = if wideL l then 141 else 0 := by unfold pathN; rw [if_neg h1, h2]; simp [h3]
        (refine LL.val (R.geF rfl rfl rfl (by omega)) rfl rfl rfl ?_; refine LL.val (R.pick rfl rfl rfl) rfl rfl rfl ?_; refine LL.nilS ?_; refine CC.no rfl ?_; refine CC.skip ?_; refine EE.thenN ?_; refine CC.seq ?_; refine CC.label ?_; refine EE.thenN ?_; refine CC.seq ?_; refine CC.seq ?_; refine CC.region ?_; refine LL.val (R.move rfl rfl) rfl rfl rfl ?_)
        refine LL.call (R.call rfl rfl rfl) rfl rfl rfl (pieces_any l _) ?_
        rintro e W ⟨b2, rfl, rb, _, b⟩
        refine ⟨_, rfl, ?_⟩
        have hsz_ := b.size
        replace q := q.trans (b.mono q.size)
        replace r2 := r2.up b
        replace hm := hm.up b
        obtain ⟨WR, rfl⟩ : ∃ X, X = W := ⟨_, rfl⟩
        have hg2l := r2.lt
        have hq0 := q.size
        (refine LL.nilS ?_; refine CC.block ?_)
        refine CC.rangeM (γ := Unit) (gf := 44) (lb := [Value.pointer (some ⟨b2, 0, none⟩)]) (encs := encP) rfl rfl (pieces_gives b2 l WR rb hm (by omega)) (Below.refl _ _) (fun k hk => hk.elim) (fun _ => rfl) rfl
          (fun m pre W' => Below w.heap.size w W' ∧ RowL W' g2 24 [.int .i64 0] ∧ ∀ x ∈ pre, x.2.length ≤ 120)
          (fun m pre W' => Below w.heap.size w W' ∧ RowL W' g2 24 [.int .i64 141] ∧ ∃ x ∈ pre, 120 < x.2.length)
          (fun W' => Below w.heap.size w W' ∧ RowL W' g2 24 [.int .i64 (pathN l : Int)])
          (fun m s X Y hs ht => ⟨hs.1.trans (ht.below hq0 hs.1.size), ht.same g2 _ hs.2.1 (.inl hg2l), hs.2.2⟩)
          (fun m s X Y hs ht => ⟨hs.1.trans (ht.below hq0 hs.1.size), ht.same g2 _ hs.2.1 (.inl hg2l), hs.2.2⟩)
          (fun m => ⟨q, r2, fun x hx => by cases hx⟩) ?hIA ?hIxA
          (fun x _ => sl [(2, .pointer (some ⟨g2, 0, none⟩)), (4, strV x.2)]) (fun x _ W' => True) (fun x _ => fun _ _ _ _ _ _ _ => trivial) ?assign ?body ?after
        case hIA =>
          rintro m xs W' rfl ⟨h1, h2, h3⟩
          have hw : wideL l = false := by
            unfold wideL
            rw [List.any_eq_false]
            intro p hp
            rw [← numB_snd (partsL l)] at hp
            obtain ⟨x, hx, rfl⟩ := List.mem_map.1 hp
            have := h3 x hx
            simp only [decide_eq_true_eq]
            omega
          rw [e0, hw]
          exact ⟨h1, h2⟩
        case hIxA =>
          rintro m pre W' ⟨_, rfl, hpre⟩ ⟨h1, h2, x, hx, h3⟩
          have hw : wideL l = true := by
            unfold wideL
            rw [List.any_eq_true]
            refine ⟨x.2, ?_, by simpa using h3⟩
            rw [← numB_snd (partsL l)]
            exact List.mem_map.2 ⟨x, hpre.subset hx, rfl⟩
          rw [e0, hw]
          exact ⟨h1, h2⟩
        case assign =>
          intro l' m pre x W K hm' hm2 hi hK
          (refine CC.region ?_; refine LL.val (R.assign rfl rfl) rfl rfl rfl ?_; refine LL.nil ?_)
          exact EE.thenK fun a' F => hK a' W () (Stays.refl _ _ _) (Keeps.refl _ _) hi (F.keep _ ⟨rfl, rfl, trivial⟩) trivial
        case body =>
          intro l' m pre x _ W hm' hm2 hl' hrl hi hax hp
          obtain ⟨h1, h2, h3⟩ := hi
          by_cases hx : 120 < x.2.length
          · (refine CC.block ?_; refine CC.seq ?_; refine CC.region ?_; refine LL.val (R.move rfl rfl) rfl rfl rfl ?_; refine LL.val (R.lenS rfl rfl rfl rfl) rfl rfl rfl ?_; refine LL.val (R.gtT rfl rfl rfl (by omega)) rfl rfl rfl ?_; refine LL.nilS ?_; refine CC.yes rfl ?_; refine CC.seq ?_; refine CC.region ?_)
            refine LL.store rfl rfl rfl rfl h2 (by exact Nat.le_of_ble_eq_true rfl) rfl rfl rfl rfl ?_
            intro W2 r3 g3 z3
            (refine LL.nilS ?_; refine CC.exit ?_; refine EE.inX' rfl ?_)
            exact EE.roundX ⟨Stays.of_grown g3 hg2l, rfl, h1.grown g3 h1.size (by rintro k ⟨⟩; omega), r3, x, by simp, hx⟩
          · (refine CC.block ?_; refine CC.seq ?_; refine CC.region ?_; refine LL.val (R.move rfl rfl) rfl rfl rfl ?_; refine LL.val (R.lenS rfl rfl rfl rfl) rfl rfl rfl ?_; refine LL.val (R.gtF rfl rfl rfl (by omega)) rfl rfl rfl ?_; refine LL.nilS ?_; refine CC.no rfl ?_; refine CC.skip ?_; refine EE.inN ?_)
            refine EE.roundN ⟨Stays.refl _ _ _, Keeps.refl _ _, h1, h2, fun y hy => ?_⟩
            rcases List.mem_append.1 hy with h | h
            · exact h3 y h
            · simp only [List.mem_singleton] at h
              subst h
              omega
        case after =>
          rintro E W hE ⟨h1, h2⟩ hK
          have c2 := h2.cell (j := 0) rfl
          (refine EE.thenN ?_; refine CC.seq ?_; refine CC.label ?_; refine EE.thenN ?_; refine CC.seq ?_; refine CC.region ?_; refine LL.val (R.load rfl rfl (I.ld1 rfl (by assumption))) rfl rfl rfl ?_)
          refine LL.store rfl rfl rfl rfl h2 (by exact Nat.le_of_ble_eq_true rfl) rfl rfl rfl rfl ?_
          intro W2 r3 g3 z3
          have hK2 := (g3.block E (Array.getElem?_eq_some_iff.1 hK).1 (by simp; omega)).trans hK
          (refine LL.nilS ?_; refine CC.ret ?_)
          refine EE.jumpR ?_
          refine EE.retN1 hK2 rfl ⟨_, rfl, lv1 rfl ((taken_up r3 (by omega)).cell rfl)⟩ ?_
          exact ⟨rfl, taken_bel (h1.grown g3 h1.size (by rintro k ⟨⟩; omega)) (by omega) (Nat.le_refl _)⟩

theorem each_any (l : Bs) (w : World) (hm : Mx w) (hl : l.length ≤ 9223372036854775807) : Calls Tryd.prog 16 #[strV l] w fun e w' => ∃ b, e = .returned (.func (.func 44) #[] [Value.pointer (some ⟨b, 0, none⟩)].toArray) ∧ RowL w' b 9 [strV (if pathN l = 0 then l else [])] ∧ w.heap.size ≤ b ∧ Below w.heap.size w w' := by
  have q := Below.refl w.heap.size w
  refine X.fn Tryd.func16 rfl (n := 8) rfl rfl ?_
  (refine CC.seq ?_; refine CC.region ?_; refine LL.val (R.assign rfl rfl) rfl rfl rfl ?_; refine LL.nilS ?_; refine CC.seq ?_; refine CC.seq ?_; refine CC.region ?_; refine LL.val (R.move rfl rfl) rfl rfl rfl ?_)
  refine LL.call (R.call rfl rfl rfl) rfl rfl rfl (pcheck_any l _ hm hl) ?_
  rintro e W ⟨rfl, b⟩
  refine ⟨_, rfl, ?_⟩
  have hsz_ := b.size
  replace q := q.trans (b.mono q.size)
  by_cases h0 : pathN l = 0
  · rw [if_pos h0]
    rw [h0]
    (refine LL.val (R.neF rfl rfl rfl (by omega)) rfl rfl rfl ?_; refine LL.nilS ?_; refine CC.no rfl ?_; refine CC.skip ?_; refine EE.thenN ?_; refine CC.seq ?_; refine CC.region ?_; refine LL.val (R.move rfl rfl) rfl rfl rfl ?_)
    refine LL.call (R.call rfl rfl rfl) rfl rfl rfl (pieces_any l _) ?_
    rintro e W ⟨b2, rfl, r, hb, b⟩
    refine ⟨_, rfl, ?_⟩
    have hsz_ := b.size
    replace q := q.trans (b.mono q.size)
    (refine LL.val (R.assign rfl rfl) rfl rfl rfl ?_; refine LL.nilS ?_; refine CC.ret ?_)
    refine EE.ret _ rfl rfl ?_
    exact ⟨b2, rfl, r, by have := q.size; omega, q⟩
  · rw [if_neg h0]
    obtain ⟨n, hn⟩ : ∃ n, pathN l = n := ⟨_, rfl⟩
    rw [hn] at h0 ⊢
    (refine LL.val (R.neT rfl rfl rfl (by omega)) rfl rfl rfl ?_; refine LL.nilS ?_; refine CC.yes rfl ?_; refine CC.region ?_; refine LL.val (R.assign rfl rfl) rfl rfl rfl ?_; refine LL.nilS ?_; refine CC.seq ?_; refine CC.region ?_; refine LL.val (R.move rfl rfl) rfl rfl rfl ?_)
    refine LL.call (R.call rfl rfl rfl) rfl rfl rfl (pieces_any [] _) ?_
    rintro e W ⟨b2, rfl, r, hb, b⟩
    refine ⟨_, rfl, ?_⟩
    have hsz_ := b.size
    replace q := q.trans (b.mono q.size)
    (refine LL.val (R.assign rfl rfl) rfl rfl rfl ?_; refine LL.nilS ?_; refine CC.ret ?_)
    refine EE.ret _ rfl rfl ?_
    exact ⟨b2, rfl, r, by have := q.size; omega, q⟩

theorem Tryd.infoS : (Tryd.prog.info? 9).map (fun i => (i.zero, i.size, i.bytes)) = some (some (strV []), 1, 16) := by kernel_rfl
theorem info_parts_t {P : Program} {T e : TypeId} {z : Value} {k bytes : Nat} (hu : P.underlying T = some (.slice e)) (h : (P.info? e).map (fun i => (i.zero, i.size, i.bytes)) = some (some z, k, bytes)) (hz : z.cells.size = k) : ElT P T e z k bytes := by
  refine ⟨hu, ?_, hz⟩
  cases hi : P.info? e with
  | none => rw [hi] at h; cases h
  | some i =>
    rw [hi] at h
    simp only [Option.map_some, Option.some.injEq, Prod.mk.injEq] at h
    exact ⟨i, rfl, h.1, h.2.1, h.2.2⟩
theorem ElS : ElT Tryd.prog 28 9 (strV []) 1 16 := info_parts_t Tryd.underlying28 Tryd.infoS rfl
theorem partsL_len (l : Bs) : (partsL l).length ≤ l.length + 1 := Nat.le_trans (List.length_filter_le _ _) (pcs_len l)
theorem pathN_long {l : Bs} (h : pathN l = 0) : l.length ≤ 1000 := by
  unfold pathN at h
  split at h
  · cases h
  · omega
set_option maxRecDepth 100000 in
set_option maxHeartbeats 4000000 in
theorem parts_any (l : Bs) (w : World) (hm : Mx w) (hl : l.length ≤ 9223372036854775807) :
    Calls Tryd.prog 13 #[strV l] w fun e w' => ∃ v, e = .returned (.tuple #[v, .int .i64 (pathN l : Int)]) ∧ OwnsT stE 1 w' w.heap.size 9 v (if pathN l = 0 then partsL l else []) ∧ Below w.heap.size w w' := by
  refine X.fnM Tryd.func13 rfl (n := 22) rfl rfl ?_
  have q := Below.refl w.heap.size w
  (refine CC.seq ?_; refine CC.region ?_; refine LL.val (R.assign rfl rfl) rfl rfl rfl ?_; refine LL.val (R.assign rfl rfl) rfl rfl rfl ?_; refine LL.nilS ?_; refine CC.seq ?_; refine CC.seq ?_; refine CC.region ?_; refine LL.val (R.move rfl rfl) rfl rfl rfl ?_)
  refine LL.call (R.call rfl rfl rfl) rfl rfl rfl (pcheck_any l _ hm hl) ?_
  rintro e W ⟨rfl, b⟩
  refine ⟨_, rfl, ?_⟩
  have hsz_ := b.size
  replace q := q.trans (b.mono q.size)
  replace hm := hm.up b
  by_cases h0 : pathN l = 0
  case neg =>
    rw [if_neg h0]
    obtain ⟨n, hn⟩ : ∃ n, pathN l = n := ⟨_, rfl⟩
    rw [hn] at h0 ⊢
    (refine LL.val (R.assign rfl rfl) rfl rfl rfl ?_; refine LL.nilS ?_; refine CC.seq ?_; refine CC.region ?_; refine LL.val (R.move rfl rfl) rfl rfl rfl ?_; refine LL.val (R.neT rfl rfl rfl (by omega)) rfl rfl rfl ?_; refine LL.nilS ?_; refine CC.yes rfl ?_; refine CC.seq ?_; refine CC.region ?_; refine LL.val (R.move rfl rfl) rfl rfl rfl ?_; refine LL.val (R.assign rfl rfl) rfl rfl rfl ?_; refine LL.val (R.assign rfl rfl) rfl rfl rfl ?_; refine LL.nilS ?_; refine CC.ret ?_; refine EE.thenR ?_)
    refine EE.retM [.slice none 0 0, .int .i64 (n : Int)] rfl rfl ?_
    exact ⟨_, rfl, OwnsT.none _ _ _, q⟩
  rw [if_pos h0]
  have hl2 := pathN_long h0
  have hpl := partsL_len l
  rw [h0]
  (refine LL.val (R.assign rfl rfl) rfl rfl rfl ?_; refine LL.nilS ?_; refine CC.seq ?_; refine CC.region ?_; refine LL.val (R.move rfl rfl) rfl rfl rfl ?_; refine LL.val (R.neF rfl rfl rfl (by omega)) rfl rfl rfl ?_; refine LL.nilS ?_; refine CC.no rfl ?_; refine CC.skip ?_; refine EE.thenN ?_; refine CC.seq ?_; refine CC.region ?_)
  refine LL.alloc [.slice none 0 0] rfl rfl rfl rfl rfl ?_
  intro W g5 eg r5 zg b
  have hsz_ := b.size
  replace q := q.trans (b.mono q.size)
  replace hm := hm.up b
  have hg5 : w.heap.size ≤ g5 := by have := q.size; omega
  (refine LL.nilS ?_; refine CC.seq ?_; refine CC.seq ?_; refine CC.region ?_; refine LL.val (R.move rfl rfl) rfl rfl rfl ?_)
  refine LL.call (R.call rfl rfl rfl) rfl rfl rfl (pieces_any l _) ?_
  rintro e W ⟨b2, rfl, rb, _, b⟩
  refine ⟨_, rfl, ?_⟩
  have hsz_ := b.size
  replace q := q.trans (b.mono q.size)
  replace r5 := r5.up b
  replace hm := hm.up b
  obtain ⟨WR, rfl⟩ : ∃ X, X = W := ⟨_, rfl⟩
  have hg5l := r5.lt
  have hq0 := q.size
  (refine LL.nilS ?_; refine CC.block ?_)
  refine CC.rangeM (γ := Unit) (gf := 44) (lb := [Value.pointer (some ⟨b2, 0, none⟩)]) (encs := encP) rfl rfl (pieces_gives b2 l WR rb hm (by omega)) (Below.refl _ _) (fun k hk => hk.elim) (fun _ => rfl) rfl
    (fun m pre W' => Below w.heap.size w W' ∧ ∃ v, RowL W' g5 28 [v] ∧ OwnsT stE 1 W' w.heap.size 9 v (pre.map (·.2)) ∧ (∀ b, v.ownBlock = some b → (b < WR.heap.size ∨ m ≤ b) ∧ b ≠ g5))
    (fun m pre W' => False)
    (fun W' => Below w.heap.size w W' ∧ ∃ v, RowL W' g5 28 [v] ∧ OwnsT stE 1 W' w.heap.size 9 v (partsL l) ∧ v.ownBlock ≠ some g5)
    ?hI (fun m s X Y hs ht => hs) (fun m => ⟨q, .slice none 0 0, r5, OwnsT.none _ _ _, fun b hb => by cases hb⟩) ?hIA (fun m pre W' hp hi => hi.elim)
    (fun x _ => sl [(5, .pointer (some ⟨g5, 0, none⟩)), (7, strV x.2)]) (fun x _ W' => True) (fun x _ => fun _ _ _ _ _ _ _ => trivial) ?assign ?body ?after
  case hI =>
    rintro m s X Y ⟨h1, v, h2, h3, h4⟩ ht
    exact ⟨h1.trans (ht.below hq0 h1.size), v, ht.same g5 _ h2 (.inl hg5l), ownsT_turns h3 (fun b hb => (h4 b hb).1) ht, h4⟩
  case hIA =>
    rintro m xs W' rfl ⟨h1, v, h2, h3, h4⟩
    rw [numB_snd] at h3
    exact ⟨h1, v, h2, h3, fun e => (h4 g5 e).2 rfl⟩
  case assign =>
    intro l' m pre x W K hm' hm2 hi hK
    (refine CC.region ?_; refine LL.val (R.assign rfl rfl) rfl rfl rfl ?_; refine LL.nil ?_)
    exact EE.thenK fun a' F => hK a' W () (Stays.refl _ _ _) (Keeps.refl _ _) hi (F.keep _ ⟨rfl, rfl, trivial⟩) trivial
  case body =>
    intro l' m pre x _ W hm' hm2 hl' hrl hi hax hp
    obtain ⟨h1, v, h2, h3, h4⟩ := hi
    have hpl2 := (numB_part hp).2.1
    have hpl3 : pre.length < (partsL l).length := (List.getElem?_eq_some_iff.1 hpl2).1
    have hy1 := h1.size
    have hgW := h2.lt
    have c5 := h2.cell (j := 0) rfl
    (refine CC.block ?_; refine CC.region ?_; refine LL.val (R.load rfl rfl (I.ld1 rfl (by assumption))) rfl rfl rfl ?_; refine LL.val (R.move rfl rfl) rfl rfl rfl ?_)
    refine LL.lit (e := 9) (stE x.2) 1 rfl rfl (fun _ => by kernel_rfl) rfl rfl ?_
    intro W2 g eg r zg b
    have rd : ReadsT stE 1 W2 (.slice (some ⟨g, 0, none⟩) 1 1) [x.2] := RowL.readsT (ts := [x.2]) stEnc (by simpa using r) 1 (by simp)
    have hlm : (pre.map (·.2)).length = pre.length := by simp
    refine LL.appendT2 rfl rfl stEnc ElS (h3.up b) rd (by rw [hlm]; simp only [List.length_singleton, maxLen]; omega) (by rw [hlm]; simp only [List.length_singleton]; omega) (by have := b.size; omega) rfl rfl ?_
    intro v' W3 o3 g3 hwhere
    have b3 : W.heap.size ≤ W2.heap.size := b.size
    have b23 := g3.size
    have hvo : ∀ bb, v'.ownBlock = some bb → (bb < WR.heap.size ∨ m ≤ bb) ∧ bb ≠ g5 := fun bb hbb => by
      rcases hwhere with he | ⟨b', he, hge⟩
      · rw [he] at hbb; exact h4 bb hbb
      · rw [he] at hbb; cases hbb; exact ⟨.inr (by omega), by omega⟩
    have h2' : RowL W3 g5 28 [v] := (h2.up b).same (g3.block g5 (by omega) (by intro e; exact (h4 g5 e.symm).2 rfl))
    have hst2 : Stays WR.heap.size m W W2 := Stays.of_below b
    have hst3 : Stays WR.heap.size m W2 W3 := ⟨g3.size, fun k o hk ho hc => by
      have hkl : k < W2.heap.size := (Array.getElem?_eq_some_iff.1 ho).1
      rw [g3.block k hkl (fun e => ?_)]
      · exact ho
      · rcases h4 k e.symm with ⟨h5 | h5, _⟩
        · omega
        · rcases hc with h6 | h6
          · omega
          · obtain ⟨_, h7⟩ := (h3.up b).above.resolve_left (by rw [← e]; simp)
            rcases (h3.up b).2 with ⟨e1, _⟩ | ⟨g', cap', cur, e1, _, hg', _⟩
            · rw [e1] at e; cases e
            · rw [e1] at e; cases e
              rw [hg'] at ho
              cases ho
              cases h6⟩
    obtain ⟨a', cp', rfl, _⟩ := (o3.reads stEnc).form rfl
    refine LL.store rfl rfl rfl rfl h2' (by exact Nat.le_of_ble_eq_true rfl) rfl rfl rfl rfl ?_
    intro W4 r4 g4 z4
    have hb3 : Below w.heap.size w W3 := (h1.trans (b.mono h1.size)).trans ((h3.up b).bel g3 (by omega))
    (refine LL.nil ?_; refine EE.inN ?_)
    refine EE.roundN ⟨(hst2.trans hst3).trans (Stays.of_grown g4 hg5l), ⟨Nat.le_trans b3 (Nat.le_trans b23 (Nat.le_of_eq z4.symm)), fun k hk => hk.elim⟩, hb3.grown g4 hb3.size (by rintro k ⟨⟩; omega), _, r4, ?_, hvo⟩
    rw [List.map_append]
    exact o3.grown g4 (fun e => (hvo g5 e).2 rfl)
  case after =>
    rintro E W hE ⟨h1, v, h2, h3, h4⟩ hK
    have c5 := h2.cell (j := 0) rfl
    have gt : W.grownBy (taken E W) (some E) := grownBy_putObj' _ _ _
    have hEl := (Array.getElem?_eq_some_iff.1 hK).1
    (refine EE.thenN ?_; refine CC.seq ?_; refine CC.region ?_; refine LL.val (R.load rfl rfl (I.ld1 rfl (by assumption))) rfl rfl rfl ?_; refine LL.val (R.assign rfl rfl) rfl rfl rfl ?_; refine LL.val (R.assign rfl rfl) rfl rfl rfl ?_; refine LL.nilS ?_; refine CC.ret ?_)
    refine EE.ret1 hK [v, .int .i64 0] rfl rfl ?_
    refine ⟨v, rfl, h3.grown gt (fun e => ?_), taken_bel h1 (by omega) (Nat.le_refl _)⟩
    rcases h3.2 with ⟨e1, _⟩ | ⟨g', cap', cur, e1, _, hg', _⟩
    · rw [e1] at e; cases e
    · rw [e1] at e; cases e
      rw [hg'] at hK
      cases hK
end Go.Proofs.YtnfggikomoialaaDoor
