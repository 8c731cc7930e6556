/- The document's names: Parts. -/
import Derived.Test.YtnfggikomoialaaDoorRf1
namespace Go.Proofs.YtnfggikomoialaaDoor
set_option linter.unusedVariables false
set_option linter.unusedSimpArgs false
open Go.RowKit Go.Shelf

theorem head_get (l : Bs) (b : UInt8) : (l.head? = some b) ↔ l[0]? = some b := by cases l <;> simp
theorem pathN_zero {l : Bs} (h1 : ¬ 1000 < l.length) (h2 : l.head? = some 47) (h0 : (0 : UInt8) ∈ l) : pathN l = 140 := by
  unfold pathN
  rw [if_neg h1]
  simp [h2, h0]
theorem pathN_ok {l : Bs} (h1 : ¬ 1000 < l.length) (h2 : l.head? = some 47) (h0 : ¬ (0 : UInt8) ∈ l) : pathN l = if wideL l then 141 else 0 := by
  unfold pathN
  rw [if_neg h1]
  simp [h2, h0]
/-- Where the document's loop stands. -/
structure ScanAt (l : Bs) (i f : Nat) (ps : List Bs) : Prop where
  le : f ≤ i + 1
  hi : i ≤ l.length + 1
  no : ∀ j, f ≤ j → j < i → l[j]? ≠ some 47
  nz : ∀ j, j < i → l[j]? ≠ some 0
  all : i ≤ l.length → f ≤ i ∧ ps ++ partsL (l.drop f) = partsL l
  end_ : i = l.length + 1 → ps = partsL l
  len : ps.length ≤ i
theorem scan_zero (l : Bs) : ScanAt l 0 0 [] := ⟨by omega, by omega, fun j h1 h2 => by omega, fun j h => by omega, fun _ => ⟨Nat.le_refl _, by simp⟩, fun h => by omega, by simp⟩
theorem ScanAt.cur {l : Bs} {i f : Nat} {ps : List Bs} (h : ScanAt l i f ps) : ∀ c ∈ sub l f i, c ≠ 47 := fun c hc e => by
  obtain ⟨j, h1, h2, h3⟩ := sub_mem hc
  exact h.no j h1 h2 (by rw [h3, e])
theorem ScanAt.one {l : Bs} {i f : Nat} {ps : List Bs} (h : ScanAt l i f ps) (hi : i ≤ l.length) : oneP (sub l f i) = if f < i then [sub l f i] else [] := by
  have hf := (h.all hi).1
  have hl := sub_len hf hi
  unfold oneP
  by_cases h1 : f < i
  · rw [if_pos h1, if_neg (fun e => by rw [e] at hl; simp at hl; omega)]
  · rw [if_neg h1, if_pos (List.eq_nil_of_length_eq_zero (by omega))]
theorem ScanAt.stroke {l : Bs} {i f : Nat} {ps : List Bs} (h : ScanAt l i f ps) (hi : i < l.length) (hc : l[i]? = some 47) : ScanAt l (i + 1) (i + 1) (ps ++ if f < i then [sub l f i] else []) := by
  obtain ⟨hf, hall⟩ := h.all (by omega)
  refine ⟨by omega, by omega, fun j h1 h2 => by omega, fun j hj => ?_, fun _ => ⟨Nat.le_refl _, ?_⟩, fun e => by omega, ?_⟩
  · rcases Nat.lt_succ_iff_lt_or_eq.1 hj with h1 | h1
    · exact h.nz j h1
    · rw [h1, hc]
      decide
  · have hd : l.drop i = 47 :: l.drop (i + 1) := by
      rw [List.drop_eq_getElem_cons hi]
      congr 1
      rw [List.getElem?_eq_getElem hi] at hc
      exact Option.some.inj hc
    rw [sub_split hf, hd, partsL_cur h.cur, h.one (by omega), ← List.append_assoc] at hall
    exact hall
  · have := h.len
    rw [List.length_append]
    split <;> simp <;> omega
theorem ScanAt.other {l : Bs} {i f : Nat} {ps : List Bs} {c : UInt8} (h : ScanAt l i f ps) (hi : i < l.length) (hc : l[i]? = some c) (h0 : c ≠ 0) (h47 : c ≠ 47) : ScanAt l (i + 1) f ps := by
  obtain ⟨hf, hall⟩ := h.all (by omega)
  refine ⟨by omega, by omega, fun j h1 h2 => ?_, fun j hj => ?_, fun _ => ⟨by omega, hall⟩, fun e => by omega, by have := h.len; omega⟩
  · rcases Nat.lt_succ_iff_lt_or_eq.1 h2 with h3 | h3
    · exact h.no j h1 h3
    · rw [h3, hc]
      intro e
      cases e
      exact h47 rfl
  · rcases Nat.lt_succ_iff_lt_or_eq.1 hj with h3 | h3
    · exact h.nz j h3
    · rw [h3, hc]
      intro e
      cases e
      exact h0 rfl
theorem ScanAt.last {l : Bs} {f : Nat} {ps : List Bs} (h : ScanAt l l.length f ps) : ScanAt l (l.length + 1) (l.length + 1) (ps ++ if f < l.length then [sub l f l.length] else []) := by
  obtain ⟨hf, hall⟩ := h.all (Nat.le_refl _)
  refine ⟨by omega, by omega, fun j h1 h2 => by omega, fun j hj => ?_, fun e => by omega, fun _ => ?_, ?_⟩
  · rcases Nat.lt_succ_iff_lt_or_eq.1 hj with h1 | h1
    · exact h.nz j h1
    · rw [h1, List.getElem?_eq_none (Nat.le_refl _)]
      simp
  · have hs := sub_split (l := l) hf
    rw [List.drop_length, List.append_nil] at hs
    rw [hs, partsL_end h.cur, h.one (Nat.le_refl _)] at hall
    exact hall
  · have := h.len
    rw [List.length_append]
    split <;> simp <;> omega

set_option maxRecDepth 100000 in
set_option maxHeartbeats 8000000 in
theorem rparts_any (l : Bs) (w : World) (hl : l.length ≤ 9223372036854775807) :
    Calls Tryd.prog 14 #[strV l] w fun e w' => ∃ v, e = .returned (.tuple #[v, .int .i64 (pathN l : Int)]) ∧ OwnsT stE 1 w' w.heap.size 9 v (if pathN l = 0 then partsL l else []) ∧ Below w.heap.size w w' := by
  have q := Below.refl w.heap.size w
  refine X.fn Tryd.func14 rfl (n := 65) rfl rfl ?_
  by_cases h1 : 1000 < l.length
  · have e0 : pathN l = 3 := by unfold pathN; rw [if_pos h1]
    rw [e0]
    (refine CC.seq ?_; refine CC.region ?_; refine LL.val (R.assign rfl rfl) rfl rfl rfl ?_; refine LL.val (R.assign rfl rfl) rfl rfl rfl ?_; refine LL.nilS ?_; refine CC.seq ?_; refine CC.seq ?_; refine CC.region ?_; refine LL.val (R.move rfl rfl) rfl rfl rfl ?_; refine LL.val (R.lenS rfl rfl rfl rfl) rfl rfl rfl ?_; refine LL.val (R.gtT rfl rfl rfl (by omega)) rfl rfl rfl ?_; refine LL.nilS ?_; refine CC.yes rfl ?_; refine CC.seq ?_; refine CC.region ?_; refine LL.val (R.assign rfl rfl) rfl rfl rfl ?_; refine LL.val (R.assign rfl rfl) rfl rfl rfl ?_; refine LL.nilS ?_; refine CC.ret ?_; refine EE.thenR ?_)
    refine EE.ret _ rfl rfl ?_
    exact ⟨_, rfl, OwnsT.none _ _ _, q⟩
  (refine CC.seq ?_; refine CC.region ?_; refine LL.val (R.assign rfl rfl) rfl rfl rfl ?_; refine LL.val (R.assign rfl rfl) rfl rfl rfl ?_; refine LL.nilS ?_; refine CC.seq ?_; refine CC.seq ?_; refine CC.region ?_; refine LL.val (R.move rfl rfl) rfl rfl rfl ?_; refine LL.val (R.lenS rfl rfl rfl rfl) rfl rfl rfl ?_; refine LL.val (R.gtF rfl rfl rfl (by omega)) rfl rfl rfl ?_; refine LL.nilS ?_; refine CC.no rfl ?_; refine CC.skip ?_; refine EE.thenN ?_; refine CC.seq ?_; refine CC.seq ?_; refine CC.region ?_; refine LL.val (R.move rfl rfl) rfl rfl rfl ?_)
  by_cases h2 : l = []
  · have e0 : pathN l = 140 := by subst h2; rfl
    rw [e0]
    refine LL.val (R.eqS (b := []) (c := true) rfl rfl rfl (by simp [h2])) rfl rfl rfl ?_
    (refine LL.val (R.move rfl rfl) rfl rfl rfl ?_; refine LL.skip rfl rfl ?_; refine LL.skip rfl rfl ?_; refine LL.skip rfl rfl ?_; refine LL.val (R.pick rfl rfl rfl) rfl rfl rfl ?_; refine LL.nilS ?_; refine CC.yes rfl ?_; refine CC.seq ?_; refine CC.region ?_; refine LL.val (R.assign rfl rfl) rfl rfl rfl ?_; refine LL.val (R.assign rfl rfl) rfl rfl rfl ?_; refine LL.nilS ?_; refine CC.ret ?_; refine EE.thenR ?_)
    refine EE.ret _ rfl rfl ?_
    exact ⟨_, rfl, OwnsT.none _ _ _, q⟩
  refine LL.val (R.eqS (b := []) (c := false) rfl rfl rfl (by simp [h2])) rfl rfl rfl ?_
  (refine LL.val (R.move rfl rfl) rfl rfl rfl ?_; refine LL.val (R.move rfl rfl) rfl rfl rfl ?_)
  obtain ⟨c0, hc0⟩ : ∃ c, l[0]? = some c := ⟨_, List.getElem?_eq_getElem (List.length_pos_iff.2 h2)⟩
  refine LL.val (R.ixS (i := 0) rfl rfl rfl rfl hc0) rfl rfl rfl ?_
  by_cases h3 : c0 = 47
  case neg =>
    have hz := mt (u8_47 c0).1 h3
    have e0 : pathN l = 140 := by
      unfold pathN
      have : l.head? ≠ some 47 := fun e => h3 (by rw [(head_get l 47).1 e] at hc0; cases hc0; rfl)
      rw [if_neg h1]
      simp [this]
    rw [e0]
    (refine LL.val (R.neT rfl rfl rfl (by omega)) rfl rfl rfl ?_; refine LL.val (R.pick rfl rfl rfl) rfl rfl rfl ?_; refine LL.nilS ?_; refine CC.yes rfl ?_; refine CC.seq ?_; refine CC.region ?_; refine LL.val (R.assign rfl rfl) rfl rfl rfl ?_; refine LL.val (R.assign rfl rfl) rfl rfl rfl ?_; refine LL.nilS ?_; refine CC.ret ?_; refine EE.thenR ?_)
    refine EE.ret _ rfl rfl ?_
    exact ⟨_, rfl, OwnsT.none _ _ _, q⟩
  have hz := (u8_47 c0).2 h3
  have hhead : l.head? = some 47 := (head_get l 47).2 (by rw [hc0, h3])
  obtain ⟨N, hN⟩ : ∃ N, l.length = N := ⟨_, rfl⟩
  (refine LL.val (R.neF rfl rfl rfl (by omega)) rfl rfl rfl ?_; refine LL.val (R.pick rfl rfl rfl) rfl rfl rfl ?_; refine LL.nilS ?_; refine CC.no rfl ?_; refine CC.skip ?_; refine EE.thenN ?_; refine CC.seq ?_; refine CC.region ?_; refine LL.val (R.assign rfl rfl) rfl rfl rfl ?_; refine LL.nilS ?_; refine CC.seq ?_; refine CC.region ?_; refine LL.val (R.assign rfl rfl) rfl rfl rfl ?_; refine LL.val (R.assign rfl rfl) rfl rfl rfl ?_; refine LL.nilS ?_; refine CC.seq ?_; refine CC.seq ?_; refine CC.region ?_; refine LL.val (R.assign rfl rfl) rfl rfl rfl ?_; refine LL.nilS ?_; refine CC.block ?_)
  refine CC.loop (α := Nat × Nat × Value × List Bs) (fun s => [(0, strV l), (4, s.2.2.1), (5, .int .i64 (s.2.1 : Int)), (6, .bool (wideB s.2.2.2)), (7, .int .i64 (s.1 : Int))]) (fun s W => ScanAt l s.1 s.2.1 s.2.2.2 ∧ Below w.heap.size w W ∧ OwnsT stE 1 W w.heap.size 9 s.2.2.1 s.2.2.2) (fun s => N + 1 - s.1) (0, 0, .slice none 0 0, []) ⟨rfl, rfl, rfl, rfl, rfl, trivial⟩ ⟨scan_zero l, q, OwnsT.none _ _ _⟩ ?_
  rintro ⟨i, f, v, ps⟩ W ⟨hS, q, o⟩
  simp only at hS o
  show CC none Tryd.prog _ 65 [] (sl [(0, strV l), (4, v), (5, .int .i64 (f : Int)), (6, .bool (wideB ps)), (7, .int .i64 (i : Int))]) _ W
  have hS1 := hS.le
  have hS2 := hS.hi
  have hlen := hS.len
  rw [hN] at hS2
  by_cases hle : i ≤ N
  case neg =>
    have hi : i = l.length + 1 := by omega
    have hps := hS.end_ hi
    have hnz : ¬ (0 : UInt8) ∈ l := fun hm => by
      obtain ⟨j, hj⟩ := List.mem_iff_getElem?.1 hm
      have := (List.getElem?_eq_some_iff.1 hj).1
      exact hS.nz j (by omega) hj
    have hw : wideB ps = wideL l := by rw [hps]; rfl
    have e0 := pathN_ok h1 hhead hnz
    rw [hw]
    cases hwl : wideL l with
    | true =>
      rw [hwl] at e0
      rw [e0]
      (refine CC.seq ?_; refine CC.seq ?_; refine CC.region ?_; refine LL.val (R.move rfl rfl) rfl rfl rfl ?_; refine LL.val (R.move rfl rfl) rfl rfl rfl ?_; refine LL.val (R.lenS rfl rfl rfl rfl) rfl rfl rfl ?_; refine LL.val (R.leF rfl rfl rfl (by omega)) rfl rfl rfl ?_; refine LL.nilS ?_; refine CC.no rfl ?_; refine CC.exit ?_; refine EE.thenX ?_; refine EE.thenX ?_; refine EE.inX ?_; refine EE.thenN ?_; refine CC.seq ?_; refine CC.seq ?_; refine CC.region ?_; refine LL.val (R.move rfl rfl) rfl rfl rfl ?_; refine LL.nilS ?_; refine CC.yes rfl ?_; refine CC.seq ?_; refine CC.region ?_; refine LL.val (R.assign rfl rfl) rfl rfl rfl ?_; refine LL.val (R.assign rfl rfl) rfl rfl rfl ?_; refine LL.nilS ?_; refine CC.ret ?_; refine EE.thenR ?_)
      refine EE.ret _ rfl rfl ?_
      exact ⟨_, rfl, OwnsT.none _ _ _, q⟩
    | false =>
      rw [hwl] at e0
      rw [e0]
      (refine CC.seq ?_; refine CC.seq ?_; refine CC.region ?_; refine LL.val (R.move rfl rfl) rfl rfl rfl ?_; refine LL.val (R.move rfl rfl) rfl rfl rfl ?_; refine LL.val (R.lenS rfl rfl rfl rfl) rfl rfl rfl ?_; refine LL.val (R.leF rfl rfl rfl (by omega)) rfl rfl rfl ?_; refine LL.nilS ?_; refine CC.no rfl ?_; refine CC.exit ?_; refine EE.thenX ?_; refine EE.thenX ?_; refine EE.inX ?_; refine EE.thenN ?_; refine CC.seq ?_; refine CC.seq ?_; refine CC.region ?_; refine LL.val (R.move rfl rfl) rfl rfl rfl ?_; refine LL.nilS ?_; refine CC.no rfl ?_; refine CC.skip ?_; refine EE.thenN ?_; refine CC.seq ?_; refine CC.region ?_; refine LL.val (R.move rfl rfl) rfl rfl rfl ?_; refine LL.val (R.assign rfl rfl) rfl rfl rfl ?_; refine LL.val (R.assign rfl rfl) rfl rfl rfl ?_; refine LL.nilS ?_; refine CC.ret ?_)
      refine EE.ret _ rfl rfl ?_
      exact ⟨v, rfl, by show OwnsT stE 1 W w.heap.size _ v (partsL l); rw [← hps]; exact o, q⟩
  have hf := (hS.all (by omega)).1
  by_cases hlt : i < N
  · obtain ⟨c, hc⟩ : ∃ c, l[i]? = some c := ⟨_, List.getElem?_eq_getElem (by omega)⟩
    by_cases hc0' : c = 0
    · have hz2 := (u8_zero c).2 hc0'
      have e0 := pathN_zero h1 hhead (by rw [← hc0']; exact List.mem_of_getElem? hc)
      rw [e0]
      (refine CC.seq ?_; refine CC.seq ?_; refine CC.region ?_; refine LL.val (R.move rfl rfl) rfl rfl rfl ?_; refine LL.val (R.move rfl rfl) rfl rfl rfl ?_; refine LL.val (R.lenS rfl rfl rfl rfl) rfl rfl rfl ?_; refine LL.val (R.leT rfl rfl rfl (by omega)) rfl rfl rfl ?_; refine LL.nilS ?_; refine CC.yes rfl ?_; refine CC.skip ?_; refine EE.thenN ?_; refine CC.seq ?_; refine CC.block ?_; refine CC.seq ?_; refine CC.seq ?_; refine CC.region ?_; refine LL.val (R.move rfl rfl) rfl rfl rfl ?_; refine LL.val (R.move rfl rfl) rfl rfl rfl ?_; refine LL.val (R.lenS rfl rfl rfl rfl) rfl rfl rfl ?_; refine LL.val (R.ltT rfl rfl rfl (by omega)) rfl rfl rfl ?_; refine LL.val (R.move rfl rfl) rfl rfl rfl ?_; refine LL.val (R.move rfl rfl) rfl rfl rfl ?_; refine LL.val (R.move rfl rfl) rfl rfl rfl ?_)
      refine LL.val (R.ixS rfl rfl rfl rfl hc) rfl rfl rfl ?_
      (refine LL.val (R.eqT rfl rfl rfl (by omega)) rfl rfl rfl ?_; refine LL.val (R.pick rfl rfl rfl) rfl rfl rfl ?_; refine LL.nilS ?_; refine CC.yes rfl ?_; refine CC.seq ?_; refine CC.region ?_; refine LL.val (R.assign rfl rfl) rfl rfl rfl ?_; refine LL.val (R.assign rfl rfl) rfl rfl rfl ?_; refine LL.nilS ?_; refine CC.ret ?_; refine EE.thenR ?_; refine EE.inR ?_; refine EE.thenR ?_; refine EE.thenR ?_; refine EE.inR ?_; refine EE.thenR ?_)
      refine EE.ret _ rfl rfl ?_
      exact ⟨_, rfl, OwnsT.none _ _ _, q⟩
    have hz2 := mt (u8_zero c).1 hc0'
    (refine CC.seq ?_; refine CC.seq ?_; refine CC.region ?_; refine LL.val (R.move rfl rfl) rfl rfl rfl ?_; refine LL.val (R.move rfl rfl) rfl rfl rfl ?_; refine LL.val (R.lenS rfl rfl rfl rfl) rfl rfl rfl ?_; refine LL.val (R.leT rfl rfl rfl (by omega)) rfl rfl rfl ?_; refine LL.nilS ?_; refine CC.yes rfl ?_; refine CC.skip ?_; refine EE.thenN ?_; refine CC.seq ?_; refine CC.block ?_; refine CC.seq ?_; refine CC.seq ?_; refine CC.region ?_; refine LL.val (R.move rfl rfl) rfl rfl rfl ?_; refine LL.val (R.move rfl rfl) rfl rfl rfl ?_; refine LL.val (R.lenS rfl rfl rfl rfl) rfl rfl rfl ?_; refine LL.val (R.ltT rfl rfl rfl (by omega)) rfl rfl rfl ?_; refine LL.val (R.move rfl rfl) rfl rfl rfl ?_; refine LL.val (R.move rfl rfl) rfl rfl rfl ?_; refine LL.val (R.move rfl rfl) rfl rfl rfl ?_)
    refine LL.val (R.ixS rfl rfl rfl rfl hc) rfl rfl rfl ?_
    (refine LL.val (R.eqF rfl rfl rfl (by omega)) rfl rfl rfl ?_; refine LL.val (R.pick rfl rfl rfl) rfl rfl rfl ?_; refine LL.nilS ?_; refine CC.no rfl ?_; refine CC.skip ?_; refine EE.thenN ?_; refine CC.seq ?_; refine CC.region ?_; refine LL.val (R.move rfl rfl) rfl rfl rfl ?_; refine LL.val (R.move rfl rfl) rfl rfl rfl ?_; refine LL.val (R.lenS rfl rfl rfl rfl) rfl rfl rfl ?_; refine LL.val (R.eqF rfl rfl rfl (by omega)) rfl rfl rfl ?_; refine LL.val (R.move rfl rfl) rfl rfl rfl ?_; refine LL.val (R.move rfl rfl) rfl rfl rfl ?_; refine LL.val (R.move rfl rfl) rfl rfl rfl ?_)
    refine LL.val (R.ixS rfl rfl rfl rfl hc) rfl rfl rfl ?_
    by_cases hc47 : c = 47
    · have hz3 := (u8_47 c).2 hc47
      have hS' := hS.stroke (by omega) (by rw [hc, hc47])
      by_cases hfi : f < i
      · rw [if_pos hfi] at hS'
        have hsl := sub_len (l := l) hf (by omega)
        have hws := wideB_snoc ps (sub l f i)
        rw [hsl] at hws
        (refine LL.val (R.eqT rfl rfl rfl (by omega)) rfl rfl rfl ?_; refine LL.val (R.pick rfl rfl rfl) rfl rfl rfl ?_; refine LL.nilS ?_; refine CC.yes rfl ?_; refine CC.seq ?_; refine CC.seq ?_; refine CC.region ?_; refine LL.val (R.move rfl rfl) rfl rfl rfl ?_; refine LL.val (R.move rfl rfl) rfl rfl rfl ?_; refine LL.val (R.gtT rfl rfl rfl (by omega)) rfl rfl rfl ?_; refine LL.nilS ?_; refine CC.yes rfl ?_; refine CC.seq ?_; refine CC.region ?_; refine LL.val (R.move rfl rfl) rfl rfl rfl ?_; refine LL.val (R.move rfl rfl) rfl rfl rfl ?_; refine LL.val (R.move rfl rfl) rfl rfl rfl ?_; refine LL.val (R.move rfl rfl) rfl rfl rfl ?_)
        refine LL.val (R.slice rfl rfl rfl rfl rfl (I.slStr rfl hf (by omega))) rfl rfl rfl ?_
        refine LL.lit (e := 9) (stE (sub l f i)) 1 rfl rfl (fun _ => by kernel_rfl) rfl rfl ?_
        intro W2 g eg r zg b
        have rd : ReadsT stE 1 W2 (.slice (some ⟨g, 0, none⟩) 1 1) [sub l f i] := RowL.readsT (ts := [sub l f i]) stEnc (by simpa using r) 1 (by simp)
        refine LL.appendT2 rfl rfl stEnc ElS (o.up b) rd (by simp only [List.length_singleton, maxLen]; omega) (by simp only [List.length_singleton]; omega) (by have := q.size; have := b.size; omega) rfl rfl ?_
        intro v' W3 o3 g3 _
        have q3 := (q.trans (b.mono q.size)).trans ((o.up b).bel g3 (by have := q.size; have := b.size; omega))
        cases hwp : wideB ps with
        | true =>
          rw [hwp, Bool.true_or] at hws
          (refine LL.val (R.assign rfl rfl) rfl rfl rfl ?_; refine LL.nilS ?_; refine CC.region ?_; refine LL.val (R.move rfl rfl) rfl rfl rfl ?_; refine LL.val (R.move rfl rfl) rfl rfl rfl ?_; refine LL.skip rfl rfl ?_; refine LL.skip rfl rfl ?_; refine LL.skip rfl rfl ?_; refine LL.skip rfl rfl ?_; refine LL.val (R.pick rfl rfl rfl) rfl rfl rfl ?_; refine LL.val (R.assign rfl rfl) rfl rfl rfl ?_; refine LL.nilS ?_; refine CC.region ?_; refine LL.val (R.move rfl rfl) rfl rfl rfl ?_; refine LL.val (R.addNc rfl rfl rfl rfl (by omega)) rfl rfl rfl ?_; refine LL.val (R.assign rfl rfl) rfl rfl rfl ?_; refine LL.nil ?_; refine EE.inN ?_; refine EE.thenN ?_; refine CC.region ?_; refine LL.val (R.move rfl rfl) rfl rfl rfl ?_; refine LL.val (R.addNc rfl rfl rfl rfl (by omega)) rfl rfl rfl ?_; refine LL.val (R.assign rfl rfl) rfl rfl rfl ?_; refine LL.nil ?_)
          exact EE.round (i + 1, i + 1, v', ps ++ [sub l f i]) ⟨rfl, rfl, rfl, by rw [hws]; rfl, rfl, trivial⟩ ⟨hS', q3, o3⟩ (by show N + 1 - (i + 1) < N + 1 - i; omega)
        | false =>
          rw [hwp, Bool.false_or] at hws
          by_cases h120 : 120 < i - f
          · rw [decide_eq_true h120] at hws
            (refine LL.val (R.assign rfl rfl) rfl rfl rfl ?_; refine LL.nilS ?_; refine CC.region ?_; refine LL.val (R.move rfl rfl) rfl rfl rfl ?_; refine LL.val (R.move rfl rfl) rfl rfl rfl ?_; refine LL.val (R.move rfl rfl) rfl rfl rfl ?_; refine LL.val (R.move rfl rfl) rfl rfl rfl ?_; refine LL.val (R.subN rfl rfl rfl (by omega) (by omega)) rfl rfl rfl ?_; refine LL.val (R.gtT rfl rfl rfl (by omega)) rfl rfl rfl ?_; refine LL.val (R.pick rfl rfl rfl) rfl rfl rfl ?_; refine LL.val (R.assign rfl rfl) rfl rfl rfl ?_; refine LL.nilS ?_; refine CC.region ?_; refine LL.val (R.move rfl rfl) rfl rfl rfl ?_; refine LL.val (R.addNc rfl rfl rfl rfl (by omega)) rfl rfl rfl ?_; refine LL.val (R.assign rfl rfl) rfl rfl rfl ?_; refine LL.nil ?_; refine EE.inN ?_; refine EE.thenN ?_; refine CC.region ?_; refine LL.val (R.move rfl rfl) rfl rfl rfl ?_; refine LL.val (R.addNc rfl rfl rfl rfl (by omega)) rfl rfl rfl ?_; refine LL.val (R.assign rfl rfl) rfl rfl rfl ?_; refine LL.nil ?_)
            exact EE.round (i + 1, i + 1, v', ps ++ [sub l f i]) ⟨rfl, rfl, rfl, by rw [hws]; rfl, rfl, trivial⟩ ⟨hS', q3, o3⟩ (by show N + 1 - (i + 1) < N + 1 - i; omega)
          · rw [decide_eq_false h120] at hws
            (refine LL.val (R.assign rfl rfl) rfl rfl rfl ?_; refine LL.nilS ?_; refine CC.region ?_; refine LL.val (R.move rfl rfl) rfl rfl rfl ?_; refine LL.val (R.move rfl rfl) rfl rfl rfl ?_; refine LL.val (R.move rfl rfl) rfl rfl rfl ?_; refine LL.val (R.move rfl rfl) rfl rfl rfl ?_; refine LL.val (R.subN rfl rfl rfl (by omega) (by omega)) rfl rfl rfl ?_; refine LL.val (R.gtF rfl rfl rfl (by omega)) rfl rfl rfl ?_; refine LL.val (R.pick rfl rfl rfl) rfl rfl rfl ?_; refine LL.val (R.assign rfl rfl) rfl rfl rfl ?_; refine LL.nilS ?_; refine CC.region ?_; refine LL.val (R.move rfl rfl) rfl rfl rfl ?_; refine LL.val (R.addNc rfl rfl rfl rfl (by omega)) rfl rfl rfl ?_; refine LL.val (R.assign rfl rfl) rfl rfl rfl ?_; refine LL.nil ?_; refine EE.inN ?_; refine EE.thenN ?_; refine CC.region ?_; refine LL.val (R.move rfl rfl) rfl rfl rfl ?_; refine LL.val (R.addNc rfl rfl rfl rfl (by omega)) rfl rfl rfl ?_; refine LL.val (R.assign rfl rfl) rfl rfl rfl ?_; refine LL.nil ?_)
            exact EE.round (i + 1, i + 1, v', ps ++ [sub l f i]) ⟨rfl, rfl, rfl, by rw [hws]; rfl, rfl, trivial⟩ ⟨hS', q3, o3⟩ (by show N + 1 - (i + 1) < N + 1 - i; omega)
      · rw [if_neg hfi, List.append_nil] at hS'
        (refine LL.val (R.eqT rfl rfl rfl (by omega)) rfl rfl rfl ?_; refine LL.val (R.pick rfl rfl rfl) rfl rfl rfl ?_; refine LL.nilS ?_; refine CC.yes rfl ?_; refine CC.seq ?_; refine CC.seq ?_; refine CC.region ?_; refine LL.val (R.move rfl rfl) rfl rfl rfl ?_; refine LL.val (R.move rfl rfl) rfl rfl rfl ?_; refine LL.val (R.gtF rfl rfl rfl (by omega)) rfl rfl rfl ?_; refine LL.nilS ?_; refine CC.no rfl ?_; refine CC.skip ?_; refine EE.thenN ?_; refine CC.region ?_; refine LL.val (R.move rfl rfl) rfl rfl rfl ?_; refine LL.val (R.addNc rfl rfl rfl rfl (by omega)) rfl rfl rfl ?_; refine LL.val (R.assign rfl rfl) rfl rfl rfl ?_; refine LL.nil ?_; refine EE.inN ?_; refine EE.thenN ?_; refine CC.region ?_; refine LL.val (R.move rfl rfl) rfl rfl rfl ?_; refine LL.val (R.addNc rfl rfl rfl rfl (by omega)) rfl rfl rfl ?_; refine LL.val (R.assign rfl rfl) rfl rfl rfl ?_; refine LL.nil ?_)
        exact EE.round (i + 1, i + 1, v, ps) ⟨rfl, rfl, rfl, rfl, rfl, trivial⟩ ⟨hS', q, o⟩ (by show N + 1 - (i + 1) < N + 1 - i; omega)
    · have hz3 := mt (u8_47 c).1 hc47
      have hS' := hS.other (by omega) hc hc0' hc47
      (refine LL.val (R.eqF rfl rfl rfl (by omega)) rfl rfl rfl ?_; refine LL.val (R.pick rfl rfl rfl) rfl rfl rfl ?_; refine LL.nilS ?_; refine CC.no rfl ?_; refine CC.skip ?_; refine EE.inN ?_; refine EE.thenN ?_; refine CC.region ?_; refine LL.val (R.move rfl rfl) rfl rfl rfl ?_; refine LL.val (R.addNc rfl rfl rfl rfl (by omega)) rfl rfl rfl ?_; refine LL.val (R.assign rfl rfl) rfl rfl rfl ?_; refine LL.nil ?_)
      exact EE.round (i + 1, f, v, ps) ⟨rfl, rfl, rfl, rfl, rfl, trivial⟩ ⟨hS', q, o⟩ (by show N + 1 - (i + 1) < N + 1 - i; omega)
  · obtain rfl : i = N := by omega
    rw [← hN] at hS
    have hS' := hS.last
    rw [hN] at hS'
    by_cases hfi : f < i
    · rw [if_pos hfi] at hS'
      have hsl := sub_len (l := l) hf (by omega)
      have hws := wideB_snoc ps (sub l f i)
      rw [hsl] at hws
      (refine CC.seq ?_; refine CC.seq ?_; refine CC.region ?_; refine LL.val (R.move rfl rfl) rfl rfl rfl ?_; refine LL.val (R.move rfl rfl) rfl rfl rfl ?_; refine LL.val (R.lenS rfl rfl rfl rfl) rfl rfl rfl ?_; refine LL.val (R.leT rfl rfl rfl (by omega)) rfl rfl rfl ?_; refine LL.nilS ?_; refine CC.yes rfl ?_; refine CC.skip ?_; refine EE.thenN ?_; refine CC.seq ?_; refine CC.block ?_; refine CC.seq ?_; refine CC.seq ?_; refine CC.region ?_; refine LL.val (R.move rfl rfl) rfl rfl rfl ?_; refine LL.val (R.move rfl rfl) rfl rfl rfl ?_; refine LL.val (R.lenS rfl rfl rfl rfl) rfl rfl rfl ?_; refine LL.val (R.ltF rfl rfl rfl (by omega)) rfl rfl rfl ?_; refine LL.val (R.move rfl rfl) rfl rfl rfl ?_; refine LL.skip rfl rfl ?_; refine LL.skip rfl rfl ?_; refine LL.skip rfl rfl ?_; refine LL.skip rfl rfl ?_; refine LL.val (R.pick rfl rfl rfl) rfl rfl rfl ?_; refine LL.nilS ?_; refine CC.no rfl ?_; refine CC.skip ?_; refine EE.thenN ?_; refine CC.seq ?_; refine CC.region ?_; refine LL.val (R.move rfl rfl) rfl rfl rfl ?_; refine LL.val (R.move rfl rfl) rfl rfl rfl ?_; refine LL.val (R.lenS rfl rfl rfl rfl) rfl rfl rfl ?_; refine LL.val (R.eqT rfl rfl rfl (by omega)) rfl rfl rfl ?_; refine LL.val (R.move rfl rfl) rfl rfl rfl ?_; refine LL.skip rfl rfl ?_; refine LL.skip rfl rfl ?_; refine LL.skip rfl rfl ?_; refine LL.skip rfl rfl ?_; refine LL.val (R.pick rfl rfl rfl) rfl rfl rfl ?_; refine LL.nilS ?_; refine CC.yes rfl ?_; refine CC.seq ?_; refine CC.seq ?_; refine CC.region ?_; refine LL.val (R.move rfl rfl) rfl rfl rfl ?_; refine LL.val (R.move rfl rfl) rfl rfl rfl ?_; refine LL.val (R.gtT rfl rfl rfl (by omega)) rfl rfl rfl ?_; refine LL.nilS ?_; refine CC.yes rfl ?_; refine CC.seq ?_; refine CC.region ?_; refine LL.val (R.move rfl rfl) rfl rfl rfl ?_; refine LL.val (R.move rfl rfl) rfl rfl rfl ?_; refine LL.val (R.move rfl rfl) rfl rfl rfl ?_; refine LL.val (R.move rfl rfl) rfl rfl rfl ?_)
      refine LL.val (R.slice rfl rfl rfl rfl rfl (I.slStr rfl hf (by omega))) rfl rfl rfl ?_
      refine LL.lit (e := 9) (stE (sub l f i)) 1 rfl rfl (fun _ => by kernel_rfl) rfl rfl ?_
      intro W2 g eg r zg b
      have rd : ReadsT stE 1 W2 (.slice (some ⟨g, 0, none⟩) 1 1) [sub l f i] := RowL.readsT (ts := [sub l f i]) stEnc (by simpa using r) 1 (by simp)
      refine LL.appendT2 rfl rfl stEnc ElS (o.up b) rd (by simp only [List.length_singleton, maxLen]; omega) (by simp only [List.length_singleton]; omega) (by have := q.size; have := b.size; omega) rfl rfl ?_
      intro v' W3 o3 g3 _
      have q3 := (q.trans (b.mono q.size)).trans ((o.up b).bel g3 (by have := q.size; have := b.size; omega))
      cases hwp : wideB ps with
      | true =>
        rw [hwp, Bool.true_or] at hws
        (refine LL.val (R.assign rfl rfl) rfl rfl rfl ?_; refine LL.nilS ?_; refine CC.region ?_; refine LL.val (R.move rfl rfl) rfl rfl rfl ?_; refine LL.val (R.move rfl rfl) rfl rfl rfl ?_; refine LL.skip rfl rfl ?_; refine LL.skip rfl rfl ?_; refine LL.skip rfl rfl ?_; refine LL.skip rfl rfl ?_; refine LL.val (R.pick rfl rfl rfl) rfl rfl rfl ?_; refine LL.val (R.assign rfl rfl) rfl rfl rfl ?_; refine LL.nilS ?_; refine CC.region ?_; refine LL.val (R.move rfl rfl) rfl rfl rfl ?_; refine LL.val (R.addNc rfl rfl rfl rfl (by omega)) rfl rfl rfl ?_; refine LL.val (R.assign rfl rfl) rfl rfl rfl ?_; refine LL.nil ?_; refine EE.inN ?_; refine EE.thenN ?_; refine CC.region ?_; refine LL.val (R.move rfl rfl) rfl rfl rfl ?_; refine LL.val (R.addNc rfl rfl rfl rfl (by omega)) rfl rfl rfl ?_; refine LL.val (R.assign rfl rfl) rfl rfl rfl ?_; refine LL.nil ?_)
        exact EE.round (i + 1, i + 1, v', ps ++ [sub l f i]) ⟨rfl, rfl, rfl, by rw [hws]; rfl, rfl, trivial⟩ ⟨hS', q3, o3⟩ (by show i + 1 - (i + 1) < i + 1 - i; omega)
      | false =>
        rw [hwp, Bool.false_or] at hws
        by_cases h120 : 120 < i - f
        · rw [decide_eq_true h120] at hws
          (refine LL.val (R.assign rfl rfl) rfl rfl rfl ?_; refine LL.nilS ?_; refine CC.region ?_; refine LL.val (R.move rfl rfl) rfl rfl rfl ?_; refine LL.val (R.move rfl rfl) rfl rfl rfl ?_; refine LL.val (R.move rfl rfl) rfl rfl rfl ?_; refine LL.val (R.move rfl rfl) rfl rfl rfl ?_; refine LL.val (R.subN rfl rfl rfl (by omega) (by omega)) rfl rfl rfl ?_; refine LL.val (R.gtT rfl rfl rfl (by omega)) rfl rfl rfl ?_; refine LL.val (R.pick rfl rfl rfl) rfl rfl rfl ?_; refine LL.val (R.assign rfl rfl) rfl rfl rfl ?_; refine LL.nilS ?_; refine CC.region ?_; refine LL.val (R.move rfl rfl) rfl rfl rfl ?_; refine LL.val (R.addNc rfl rfl rfl rfl (by omega)) rfl rfl rfl ?_; refine LL.val (R.assign rfl rfl) rfl rfl rfl ?_; refine LL.nil ?_; refine EE.inN ?_; refine EE.thenN ?_; refine CC.region ?_; refine LL.val (R.move rfl rfl) rfl rfl rfl ?_; refine LL.val (R.addNc rfl rfl rfl rfl (by omega)) rfl rfl rfl ?_; refine LL.val (R.assign rfl rfl) rfl rfl rfl ?_; refine LL.nil ?_)
          exact EE.round (i + 1, i + 1, v', ps ++ [sub l f i]) ⟨rfl, rfl, rfl, by rw [hws]; rfl, rfl, trivial⟩ ⟨hS', q3, o3⟩ (by show i + 1 - (i + 1) < i + 1 - i; omega)
        · rw [decide_eq_false h120] at hws
          (refine LL.val (R.assign rfl rfl) rfl rfl rfl ?_; refine LL.nilS ?_; refine CC.region ?_; refine LL.val (R.move rfl rfl) rfl rfl rfl ?_; refine LL.val (R.move rfl rfl) rfl rfl rfl ?_; refine LL.val (R.move rfl rfl) rfl rfl rfl ?_; refine LL.val (R.move rfl rfl) rfl rfl rfl ?_; refine LL.val (R.subN rfl rfl rfl (by omega) (by omega)) rfl rfl rfl ?_; refine LL.val (R.gtF rfl rfl rfl (by omega)) rfl rfl rfl ?_; refine LL.val (R.pick rfl rfl rfl) rfl rfl rfl ?_; refine LL.val (R.assign rfl rfl) rfl rfl rfl ?_; refine LL.nilS ?_; refine CC.region ?_; refine LL.val (R.move rfl rfl) rfl rfl rfl ?_; refine LL.val (R.addNc rfl rfl rfl rfl (by omega)) rfl rfl rfl ?_; refine LL.val (R.assign rfl rfl) rfl rfl rfl ?_; refine LL.nil ?_; refine EE.inN ?_; refine EE.thenN ?_; refine CC.region ?_; refine LL.val (R.move rfl rfl) rfl rfl rfl ?_; refine LL.val (R.addNc rfl rfl rfl rfl (by omega)) rfl rfl rfl ?_; refine LL.val (R.assign rfl rfl) rfl rfl rfl ?_; refine LL.nil ?_)
          exact EE.round (i + 1, i + 1, v', ps ++ [sub l f i]) ⟨rfl, rfl, rfl, by rw [hws]; rfl, rfl, trivial⟩ ⟨hS', q3, o3⟩ (by show i + 1 - (i + 1) < i + 1 - i; omega)
    · rw [if_neg hfi, List.append_nil] at hS'
      (refine CC.seq ?_; refine CC.seq ?_; refine CC.region ?_; refine LL.val (R.move rfl rfl) rfl rfl rfl ?_; refine LL.val (R.move rfl rfl) rfl rfl rfl ?_; refine LL.val (R.lenS rfl rfl rfl rfl) rfl rfl rfl ?_; refine LL.val (R.leT rfl rfl rfl (by omega)) rfl rfl rfl ?_; refine LL.nilS ?_; refine CC.yes rfl ?_; refine CC.skip ?_; refine EE.thenN ?_; refine CC.seq ?_; refine CC.block ?_; refine CC.seq ?_; refine CC.seq ?_; refine CC.region ?_; refine LL.val (R.move rfl rfl) rfl rfl rfl ?_; refine LL.val (R.move rfl rfl) rfl rfl rfl ?_; refine LL.val (R.lenS rfl rfl rfl rfl) rfl rfl rfl ?_; refine LL.val (R.ltF rfl rfl rfl (by omega)) rfl rfl rfl ?_; refine LL.val (R.move rfl rfl) rfl rfl rfl ?_; refine LL.skip rfl rfl ?_; refine LL.skip rfl rfl ?_; refine LL.skip rfl rfl ?_; refine LL.skip rfl rfl ?_; refine LL.val (R.pick rfl rfl rfl) rfl rfl rfl ?_; refine LL.nilS ?_; refine CC.no rfl ?_; refine CC.skip ?_; refine EE.thenN ?_; refine CC.seq ?_; refine CC.region ?_; refine LL.val (R.move rfl rfl) rfl rfl rfl ?_; refine LL.val (R.move rfl rfl) rfl rfl rfl ?_; refine LL.val (R.lenS rfl rfl rfl rfl) rfl rfl rfl ?_; refine LL.val (R.eqT rfl rfl rfl (by omega)) rfl rfl rfl ?_; refine LL.val (R.move rfl rfl) rfl rfl rfl ?_; refine LL.skip rfl rfl ?_; refine LL.skip rfl rfl ?_; refine LL.skip rfl rfl ?_; refine LL.skip rfl rfl ?_; refine LL.val (R.pick rfl rfl rfl) rfl rfl rfl ?_; refine LL.nilS ?_; refine CC.yes rfl ?_; refine CC.seq ?_; refine CC.seq ?_; refine CC.region ?_; refine LL.val (R.move rfl rfl) rfl rfl rfl ?_; refine LL.val (R.move rfl rfl) rfl rfl rfl ?_; refine LL.val (R.gtF rfl rfl rfl (by omega)) rfl rfl rfl ?_; refine LL.nilS ?_; refine CC.no rfl ?_; refine CC.skip ?_; refine EE.thenN ?_; refine CC.region ?_; refine LL.val (R.move rfl rfl) rfl rfl rfl ?_; refine LL.val (R.addNc rfl rfl rfl rfl (by omega)) rfl rfl rfl ?_; refine LL.val (R.assign rfl rfl) rfl rfl rfl ?_; refine LL.nil ?_; refine EE.inN ?_; refine EE.thenN ?_; refine CC.region ?_; refine LL.val (R.move rfl rfl) rfl rfl rfl ?_; refine LL.val (R.addNc rfl rfl rfl rfl (by omega)) rfl rfl rfl ?_; refine LL.val (R.assign rfl rfl) rfl rfl rfl ?_; refine LL.nil ?_)
      exact EE.round (i + 1, i + 1, v, ps) ⟨rfl, rfl, rfl, rfl, rfl, trivial⟩ ⟨hS', q, o⟩ (by show i + 1 - (i + 1) < i + 1 - i; omega)
end Go.Proofs.YtnfggikomoialaaDoor
