/- names: pieces. -/
import Derived.Test.YtnfggikomoialaaDoorNm1
import Derived.Test.YtnfggikomoialaaDoorSeq
namespace Go.Proofs.YtnfggikomoialaaDoor
set_option linter.unusedVariables false
set_option linter.unusedSimpArgs false
open Go.RowKit Go.Shelf

/-- The library's variable, whatever it holds. -/
structure Mx (w : World) : Prop where
  h : ∃ m, w.cell? ⟨0, 0, none⟩ = some (.int .i64 m)
  lt : 0 < w.heap.size
theorem Mx.up {w w' : World} (h : Mx w) (hb : Below w.heap.size w w') : Mx w' := by
  obtain ⟨m, hm⟩ := h.h
  exact ⟨⟨m, (hb.cell (p := ⟨0, 0, none⟩) h.lt).trans hm⟩, Nat.lt_of_lt_of_le h.lt hb.size⟩
theorem Mx.low {w w' : World} {B : Nat} (h : Mx w) (hb : Below B w w') (hB : 0 < B) : Mx w' := by
  obtain ⟨m, hm⟩ := h.h
  exact ⟨⟨m, (hb.cell (p := ⟨0, 0, none⟩) hB).trans hm⟩, Nat.lt_of_lt_of_le h.lt hb.size⟩
theorem split_any (l : Bs) (w : World) (hm : Mx w) (hl : l.length < 4294967281) : Calls Tryd.prog 45 #[strV l, strV [47]] w fun e w' => ∃ g, e = .returned (.slice (some ⟨g, 0, none⟩) (pcs l).length (pcs l).length) ∧ w.heap.size = g ∧ RowL w' g 9 ((pcs l).flatMap stE) ∧ Below w.heap.size w w' := by
  obtain ⟨m, hm⟩ := hm.h
  refine (Tryd.strings_Split ⟨l.toArray⟩ ⟨#[47]⟩ m w (by simpa [ByteArray.size] using hl) hm (by decide)).mono ?_
  rintro e w' ⟨rfl, rfl⟩
  refine ⟨w.heap.size, by rw [splitB_len], rfl, ?_, Below.alloc0 _ _⟩
  rw [← splitB_pcs]
  exact RowL.new _ _ _
abbrev encP (x : Nat × Bs) : List Value := [.int .i64 (x.1 : Int), strV x.2]
def preB (l : Bs) (k : Nat) : List (Nat × Bs) := numB (((pcs l).take k).filter fun p => !p.isEmpty)
theorem preB_skip {l : Bs} {k : Nat} (h : (pcs l)[k]? = some []) : preB l (k + 1) = preB l k := by
  unfold preB
  rw [List.take_add_one, h]
  simp
theorem preB_step {l : Bs} {k : Nat} {p : Bs} (h : (pcs l)[k]? = some p) (hp : p ≠ []) : preB l (k + 1) = preB l k ++ [((preB l k).length, p)] := by
  unfold preB
  rw [List.take_add_one, h, List.filter_append, numB_len, ← numB_snoc]
  have : ([p].filter fun p : Bs => !p.isEmpty) = [p] := by
    cases p with
    | nil => exact absurd rfl hp
    | cons _ _ => rfl
  show numB (_ ++ [p].filter _) = _
  rw [this]
theorem preB_part (l : Bs) (k : Nat) : preB l k <+: numB (partsL l) := by
  have h := numB_pre (((pcs l).take k).filter fun p => !p.isEmpty) (((pcs l).drop k).filter fun p => !p.isEmpty)
  rw [← List.filter_append, List.take_append_drop] at h
  exact h
theorem preB_all (l : Bs) {k : Nat} (h : (pcs l).length ≤ k) : preB l k = numB (partsL l) := by
  unfold preB partsL
  rw [List.take_of_length_le h]
theorem preB_len (l : Bs) (k : Nat) : (preB l k).length ≤ k := by
  unfold preB
  rw [numB_len]
  refine Nat.le_trans (List.length_filter_le _ _) ?_
  rw [List.length_take]
  omega
theorem pcs_len : ∀ l : Bs, (pcs l).length ≤ l.length + 1
  | [] => by simp [pcs]
  | b :: l => by
    have ih := pcs_len l
    unfold pcs
    split
    · simp; omega
    · split
      · rename_i h t e
        rw [e] at ih
        simp at ih ⊢
        omega
      · simp

set_option maxRecDepth 100000 in
set_option maxHeartbeats 2000000 in
theorem pieces_gives (b : Nat) (l : Bs) (w : World) (hc : RowL w b 9 [strV l]) (hm : Mx w) (hl : l.length < 1048576) :
    GivesM Tryd.prog 44 [Value.pointer (some ⟨b, 0, none⟩)].toArray (fun x => (encP x).toArray) (fun _ => False) (fun xs => xs = numB (partsL l)) w := by
  intro lp J Jx W hW hJ hJx hY h0
  have hcW := hc.up hW
  have hmW := hm.up hW
  rw [show (#[.func (.yield lp) #[] #[]] ++ [Value.pointer (some ⟨b, 0, none⟩)].toArray : Array Value) = #[.func (.yield lp) #[] #[], .pointer (some ⟨b, 0, none⟩)] from rfl]
  have hpl := pcs_len l
  refine X.fn Tryd.func44 rfl (n := 23) rfl rfl ?_
  (refine CC.seq ?_; refine CC.region ?_; refine LL.val (R.assign rfl rfl) rfl rfl rfl ?_; refine LL.nilS ?_; refine CC.seq ?_; refine CC.region ?_; refine LL.val (R.load rfl rfl (I.ld1 rfl (RowL.cell (by assumption) rfl))) rfl rfl rfl ?_)
  refine LL.call (R.call rfl rfl rfl) rfl rfl rfl (split_any l W hmW (by omega)) ?_
  rintro e W1 ⟨g, rfl, eg, r, b1⟩
  refine ⟨_, rfl, ?_⟩
  obtain ⟨N, hN⟩ : ∃ N, (pcs l).length = N := ⟨_, rfl⟩
  rw [hN] at hpl ⊢
  have y1 := b1.size
  have hgl := r.lt
  (refine LL.val (R.len rfl rfl rfl rfl) rfl rfl rfl ?_; refine LL.val (R.move rfl rfl) rfl rfl rfl ?_; refine LL.nilS ?_; refine CC.block ?_)
  refine CC.loop (α := Nat) (fun k => [(0, .func (.yield lp) #[] #[]), (3, .int .i64 ((preB l k).length : Int)), (7, .slice (some ⟨g, 0, none⟩) N N), (8, .int .i64 (N : Int)), (9, .int .i64 (k : Int))]) (fun k wr => k ≤ N ∧ W1.heap.size ≤ wr.heap.size ∧ J W1.heap.size (preB l k) wr ∧ RowL wr g 9 ((pcs l).flatMap stE)) (fun k => N - k) 0 ⟨rfl, rfl, rfl, rfl, rfl, trivial⟩ ⟨by omega, Nat.le_refl _, hJ _ _ _ _ (h0 _) (Turns.of_below b1), r⟩ ?_
  intro k wr ⟨hk, hz, hJk, r⟩
  by_cases hlt : k < N
  · obtain ⟨p, hp⟩ : ∃ p, (pcs l)[k]? = some p := ⟨_, List.getElem?_eq_getElem (by omega)⟩
    have hcp : wr.cell? ⟨g, 0 + k, none⟩ = some (strV p) := by
      rw [Nat.zero_add]
      have := stEnc.get (pcs l) k p hp 0 (by omega)
      rw [Nat.mul_one, Nat.add_zero] at this
      exact r.cell (this.trans rfl)
    have hle := preB_len l k
    by_cases hp0 : p = []
    · (refine CC.seq ?_; refine CC.region ?_; refine LL.val (R.ltT rfl rfl rfl (by omega)) rfl rfl rfl ?_; refine LL.nilS ?_; refine CC.seq ?_; refine CC.yes rfl ?_; refine CC.skip ?_; refine EE.thenN ?_; refine CC.seq ?_; refine CC.block ?_; refine CC.seq ?_; refine CC.region ?_; refine LL.val (R.index rfl rfl rfl (I.ixS1 rfl (by omega))) rfl rfl rfl ?_; refine LL.val (R.load rfl rfl (I.ld1 rfl (by assumption))) rfl rfl rfl ?_; refine LL.val (R.assign rfl rfl) rfl rfl rfl ?_; refine LL.nilS ?_; refine CC.seq ?_; refine CC.seq ?_; refine CC.region ?_; refine LL.val (R.move rfl rfl) rfl rfl rfl ?_)
      refine LL.val (R.eqS (b := []) (c := true) rfl rfl rfl (by simp [hp0])) rfl rfl rfl ?_
      (refine LL.nilS ?_; refine CC.yes rfl ?_; refine CC.exit ?_; refine EE.thenX ?_; refine EE.inX ?_; refine EE.thenN ?_; refine CC.region ?_; refine LL.val (R.addNc rfl rfl rfl rfl (by omega)) rfl rfl rfl ?_; refine LL.val (R.move rfl rfl) rfl rfl rfl ?_; refine LL.nil ?_)
      refine EE.round (k + 1) ⟨rfl, by rw [preB_skip (by rw [hp, hp0])]; rfl, rfl, rfl, rfl, trivial⟩ ⟨by omega, hz, by rw [preB_skip (by rw [hp, hp0])]; exact hJk, r⟩ (by omega)
    · have hst := preB_step hp hp0
      have hpart : Part (fun xs => xs = numB (partsL l)) (preB l k ++ [((preB l k).length, p)]) := ⟨_, rfl, by rw [← hst]; exact preB_part l (k + 1)⟩
      (refine CC.seq ?_; refine CC.region ?_; refine LL.val (R.ltT rfl rfl rfl (by omega)) rfl rfl rfl ?_; refine LL.nilS ?_; refine CC.seq ?_; refine CC.yes rfl ?_; refine CC.skip ?_; refine EE.thenN ?_; refine CC.seq ?_; refine CC.block ?_; refine CC.seq ?_; refine CC.region ?_; refine LL.val (R.index rfl rfl rfl (I.ixS1 rfl (by omega))) rfl rfl rfl ?_; refine LL.val (R.load rfl rfl (I.ld1 rfl (by assumption))) rfl rfl rfl ?_; refine LL.val (R.assign rfl rfl) rfl rfl rfl ?_; refine LL.nilS ?_; refine CC.seq ?_; refine CC.seq ?_; refine CC.region ?_; refine LL.val (R.move rfl rfl) rfl rfl rfl ?_)
      refine LL.val (R.eqS (b := []) (c := false) rfl rfl rfl (by simp [hp0])) rfl rfl rfl ?_
      (refine LL.nilS ?_; refine CC.no rfl ?_; refine CC.skip ?_; refine EE.thenN ?_; refine CC.seq ?_; refine CC.seq ?_; refine CC.region ?_; refine LL.val (R.move rfl rfl) rfl rfl rfl ?_; refine LL.val (R.move rfl rfl) rfl rfl rfl ?_; refine LL.val (R.move rfl rfl) rfl rfl rfl ?_)
      refine LL.yield (vs := encP ((preB l k).length, p)) rfl rfl rfl rfl rfl (hY _ _ ((preB l k).length, p) wr y1 hz hJk hpart) ?_
      rintro e W3 ⟨hs3, (⟨rfl, hJ4, hb4⟩ | ⟨rfl, hJx4⟩)⟩
      · refine ⟨_, rfl, ?_⟩
        (refine LL.val (R.not rfl rfl) rfl rfl rfl ?_; refine LL.nilS ?_; refine CC.no rfl ?_; refine CC.skip ?_; refine EE.thenN ?_; refine CC.region ?_; refine LL.val (R.move rfl rfl) rfl rfl rfl ?_; refine LL.val (R.addNc rfl rfl rfl rfl (by omega)) rfl rfl rfl ?_; refine LL.val (R.assign rfl rfl) rfl rfl rfl ?_; refine LL.nil ?_; refine EE.inN ?_; refine EE.thenN ?_; refine CC.region ?_; refine LL.val (R.addNc rfl rfl rfl rfl (by omega)) rfl rfl rfl ?_; refine LL.val (R.move rfl rfl) rfl rfl rfl ?_; refine LL.nil ?_)
        refine EE.round (k + 1) ⟨rfl, by rw [hst, List.length_append]; rfl, rfl, rfl, rfl, trivial⟩ ⟨by omega, Nat.le_trans hz hs3.size, by rw [hst]; exact hJ4, hs3.same g _ (by omega) r (.inl (by omega))⟩ (by omega)
      · refine ⟨_, rfl, ?_⟩
        (refine LL.val (R.not rfl rfl) rfl rfl rfl ?_; refine LL.nilS ?_; refine CC.yes rfl ?_; refine CC.ret ?_; refine EE.thenR ?_; refine EE.inR ?_; refine EE.thenR ?_; refine EE.thenR ?_; refine EE.inR ?_)
        refine EE.ret [] rfl rfl ?_
        exact ⟨⟨_, rfl⟩, .inr ⟨_, _, hpart, hJx4⟩⟩
  · obtain rfl : k = N := by omega
    (refine CC.seq ?_; refine CC.region ?_; refine LL.val (R.ltF rfl rfl rfl (by omega)) rfl rfl rfl ?_; refine LL.nilS ?_; refine CC.seq ?_; refine CC.no rfl ?_; refine CC.exit ?_; refine EE.thenX ?_; refine EE.thenX ?_; refine EE.inX ?_)
    refine EE.end [] rfl rfl ?_
    exact ⟨⟨_, rfl⟩, .inl ⟨_, _, rfl, by rw [preB_all l (by omega)] at hJk; exact hJk⟩⟩
theorem pieces_any (l : Bs) (w : World) : Calls Tryd.prog 30 #[strV l] w fun e w' => ∃ b, e = .returned (.func (.func 44) #[] [Value.pointer (some ⟨b, 0, none⟩)].toArray) ∧ RowL w' b 9 [strV l] ∧ w.heap.size ≤ b ∧ Below w.heap.size w w' := by
  have q := Below.refl w.heap.size w
  refine X.fn Tryd.func30 rfl (n := 4) rfl rfl ?_
  (refine CC.seq ?_; refine CC.region ?_)
  refine LL.box [strV l] rfl rfl rfl rfl rfl ?_
  intro W g eg r zg b
  have hsz_ := b.size
  replace q := q.trans (b.mono q.size)
  (refine LL.val (R.assign rfl rfl) rfl rfl rfl ?_; refine LL.nilS ?_; refine CC.seq ?_; refine CC.region ?_; refine LL.val (R.func rfl rfl rfl) rfl rfl rfl ?_; refine LL.val (R.assign rfl rfl) rfl rfl rfl ?_; refine LL.nilS ?_; refine CC.ret ?_)
  refine EE.ret _ rfl rfl ?_
  exact ⟨g, rfl, r, by omega, q⟩
end Go.Proofs.YtnfggikomoialaaDoor
