/- The document's Runs. -/
import Derived.Test.YtojoaplbgcdapaaRefC
namespace Go.Proofs.Ytojoaplbgcdapaa
set_option linter.unusedVariables false
set_option linter.unusedSimpArgs false
open Go.RowKit Go.Shelf

def bitsL (p : Nat → Bool) (n : Nat) : List Bool := (List.range n).map p
theorem bitsL_len (p : Nat → Bool) (n : Nat) : (bitsL p n).length = n := by simp [bitsL]
theorem bitsL_get {p : Nat → Bool} {n i : Nat} (h : i < n) : (bitsL p n)[i]? = some (p i) := by simp [bitsL, h]
/-- Whether the last run ends here. -/
theorem runsP_prev (p : Nat → Bool) (i : Nat) (hp : p (i + 1) = true) : (p i = true → ∃ r, (runsP p 0 (i + 1)).getLast? = some r ∧ r.1 + r.2 = i + 1 ∧ runsP p 0 (i + 2) = (runsP p 0 (i + 1)).dropLast ++ [(r.1, r.2 + 1)]) ∧ (p i = false → runsP p 0 (i + 2) = runsP p 0 (i + 1) ++ [(i + 1, 1)]) := by
  have hp' : p (0 + (i + 1)) = true := by rw [Nat.zero_add]; exact hp
  have e2 : runsP p 0 (i + 2) = addR p (runsP p 0 (i + 1)) (0 + (i + 1)) := rfl
  constructor
  · intro h
    rcases addR_on (l := runsP p 0 (i + 1)) hp' with ⟨x, hx, he, hl⟩ | ⟨hno, hl⟩
    · exact ⟨x, hx, by omega, by rw [e2, hl]⟩
    · obtain ⟨r, hr, h1, h2⟩ := runsP_has (p := p) (a := 0) (i + 1) i 1 (by omega) (by omega) (by omega) (fun j hj => by rw [show i + j = i by omega]; exact h)
      have h3 := runsP_in (i + 1) r hr
      have h4 := runsP_end (i + 1) r hr (by omega)
      exact absurd (by omega) (hno r h4)
  · intro h
    rcases addR_on (l := runsP p 0 (i + 1)) hp' with ⟨x, hx, he, hl⟩ | ⟨hno, hl⟩
    · have hi : p (0 + i) = false := by rw [Nat.zero_add]; exact h
      rw [runsP_off hi] at hx
      have := runsP_in i x (List.mem_of_getLast? hx)
      omega
    · rw [e2, hl, Nat.zero_add]
theorem runsP_first (p : Nat → Bool) (hp : p 0 = true) : runsP p 0 1 = [(0, 1)] := by
  show addR p [] (0 + 0) = _
  unfold addR
  rw [if_pos hp]
  rfl
theorem set_last {α : Type} {l : List α} {x y : α} {L : Nat} (h : l.getLast? = some x) (hL : l.length = L) : l[L - 1]? = some x ∧ l.set (L - 1) y = l.dropLast ++ [y] ∧ 0 < L := by
  have hd := last_eq h
  have hl : l.dropLast.length = L - 1 := by rw [List.length_dropLast, hL]
  have hpos : 0 < L := by
    rw [hd, List.length_append] at hL
    simp at hL
    omega
  refine ⟨?_, ?_, hpos⟩
  · rw [hd, ← hl, List.getElem?_append_right (Nat.le_refl _)]
    simp
  · conv => lhs; rw [hd]
    rw [← hl, List.set_append_right _ _ (Nat.le_refl _)]
    simp
theorem Try.infoR : (Try.prog.info? 57).map (fun i => (i.zero, i.size, i.bytes)) = some (some (.agg #[.int .i64 0, .int .i64 0]), 2, 16) := by kernel_rfl
theorem ElRun : ElT Try.prog 54 57 (.agg #[.int .i64 0, .int .i64 0]) 2 16 := info_parts_t Try.underlying54 Try.infoR rfl
theorem runsP_len (p : Nat → Bool) : ∀ n, (runsP p 0 n).length ≤ n
  | 0 => Nat.le_refl _
  | n + 1 => by
    have ih := runsP_len p n
    cases hp : p (0 + n) with
    | false => rw [runsP_off hp]; omega
    | true =>
      rw [runsP_succ]
      rcases addR_on (l := runsP p 0 n) hp with ⟨x, hx, he, hl⟩ | ⟨hno, hl⟩
      · rw [hl, List.length_append, List.length_dropLast]
        simp
        omega
      · rw [hl, List.length_append]
        simp
        omega
set_option maxRecDepth 100000 in
set_option maxHeartbeats 4000000 in
theorem rruns_any (va : Value) (p : Nat → Bool) (n : Nat) (w : World) (ha : ReadsT bE 1 w va (bitsL p n)) (hn : n ≤ 65536) :
    Calls Try.prog 26 #[va] w fun e w' => ∃ v, e = .returned v ∧ OwnsT rE 2 w' w.heap.size 57 v (runsP p 0 n) ∧ Below w.heap.size w w' := by
  have har := ha
  obtain ⟨a, cap, rfl, hc⟩ := ha.form (bitsL_len p n)
  refine X.fn Try.func26 rfl (n := 46) rfl rfl ?_
  (refine CC.seq ?_; refine CC.region ?_; refine LL.val (R.assign rfl rfl) rfl rfl rfl ?_; refine LL.nilS ?_; refine CC.seq ?_; refine CC.region ?_; refine LL.val (R.assign rfl rfl) rfl rfl rfl ?_; refine LL.nilS ?_; refine CC.seq ?_; refine CC.seq ?_; refine CC.region ?_; refine LL.val (R.assign rfl rfl) rfl rfl rfl ?_; refine LL.nilS ?_; refine CC.block ?_)
  refine CC.loop (α := Nat × Value) (fun s => [(0, .slice a n cap), (3, s.2), (4, .int .i64 (s.1 : Int))]) (fun s W => s.1 ≤ n ∧ Below w.heap.size w W ∧ OwnsT rE 2 W w.heap.size 57 s.2 (runsP p 0 s.1)) (fun s => n - s.1) (0, .slice none 0 0) ⟨rfl, rfl, rfl, trivial⟩ ⟨by show 0 ≤ n; omega, Below.refl _ _, OwnsT.none _ _ _⟩ ?_
  rintro ⟨i, v⟩ W ⟨hi, q, o⟩
  simp only at hi o
  show CC none Try.prog _ 46 [] (sl [(0, .slice a n cap), (3, v), (4, .int .i64 (i : Int))]) _ W
  by_cases hlt : i < n
  · obtain ⟨bl, off, rfl, hbl, hcs⟩ := ReadsT.one bEnc (har.up q) (bitsL_get (p := p) hlt)
    have hc1 := hcs _ rfl
    cases hpi : p i with
    | true =>
      rw [hpi] at hc1
      have hln := runsP_len p i
      cases i with
      | zero =>
        have hr1 := runsP_first p hpi
        (refine CC.seq ?_; refine CC.seq ?_; refine CC.region ?_; refine LL.val (R.move rfl rfl) rfl rfl rfl ?_; refine LL.val (R.move rfl rfl) rfl rfl rfl ?_; refine LL.val (R.len rfl rfl rfl rfl) rfl rfl rfl ?_; refine LL.val (R.ltT rfl rfl rfl (by omega)) rfl rfl rfl ?_; refine LL.nilS ?_; refine CC.yes rfl ?_; refine CC.skip ?_; refine EE.thenN ?_; refine CC.seq ?_; refine CC.block ?_; refine CC.seq ?_; refine CC.region ?_; refine LL.val (R.move rfl rfl) rfl rfl rfl ?_; refine LL.val (R.move rfl rfl) rfl rfl rfl ?_; refine LL.val (R.index rfl rfl rfl (I.ixS1c rfl rfl (by omega))) rfl rfl rfl ?_; refine LL.val (R.load rfl rfl (I.ld1 rfl (by assumption))) rfl rfl rfl ?_; refine LL.val (R.move rfl rfl) rfl rfl rfl ?_; refine LL.val (R.move rfl rfl) rfl rfl rfl ?_; refine LL.val (R.gtF rfl rfl rfl (by omega)) rfl rfl rfl ?_; refine LL.val (R.pick rfl rfl rfl) rfl rfl rfl ?_; refine LL.val (R.move rfl rfl) rfl rfl rfl ?_; refine LL.skip rfl rfl ?_; refine LL.skip rfl rfl ?_; refine LL.skip rfl rfl ?_; refine LL.skip rfl rfl ?_; refine LL.skip rfl rfl ?_; refine LL.val (R.pick rfl rfl rfl) rfl rfl rfl ?_; refine LL.nilS ?_; refine CC.no rfl ?_; refine CC.seq ?_; refine CC.region ?_; refine LL.val (R.move rfl rfl) rfl rfl rfl ?_; refine LL.val (R.move rfl rfl) rfl rfl rfl ?_; refine LL.val (R.index rfl rfl rfl (I.ixS1c rfl rfl (by omega))) rfl rfl rfl ?_; refine LL.val (R.load rfl rfl (I.ld1 rfl (by assumption))) rfl rfl rfl ?_; refine LL.nilS ?_; refine CC.yes rfl ?_; refine CC.region ?_; refine LL.val (R.move rfl rfl) rfl rfl rfl ?_; refine LL.val (R.move rfl rfl) rfl rfl rfl ?_)
        refine LL.val (R.buildV rfl rfl (v := .agg (rE (0, 1)).toArray) (fun _ => by kernel_rfl)) rfl rfl rfl ?_
        refine LL.lit (e := 57) (rE (0, 1)) 1 rfl rfl (fun _ => by kernel_rfl) rfl rfl ?_
        intro W2 g eg r zg b
        have rd : ReadsT rE 2 W2 (.slice (some ⟨g, 0, none⟩) 1 1) [(0, 1)] := RowL.readsT (ts := [(0, 1)]) rEnc (by simpa using r) 1 (by simp)
        refine LL.appendT2 rfl rfl rEnc ElRun (o.up b) rd (by simp only [List.length_singleton, maxLen]; omega) (by simp only [List.length_singleton]; omega) (by have := q.size; have := b.size; omega) rfl rfl ?_
        intro v' W3 o3 g3 _
        (refine LL.val (R.assign rfl rfl) rfl rfl rfl ?_; refine LL.nil ?_; refine EE.inN ?_; refine EE.thenN ?_; refine CC.region ?_; refine LL.val (R.move rfl rfl) rfl rfl rfl ?_; refine LL.val (R.addNc rfl rfl rfl rfl (by omega)) rfl rfl rfl ?_; refine LL.val (R.assign rfl rfl) rfl rfl rfl ?_; refine LL.nil ?_)
        refine EE.round (1, v') ⟨rfl, rfl, rfl, trivial⟩ ⟨by show 1 ≤ n; omega, (q.trans (b.mono q.size)).trans ((o.up b).bel g3 (by have := q.size; have := b.size; omega)), ?_⟩ (by show n - 1 < n - 0; omega)
        show OwnsT rE 2 W3 w.heap.size _ v' (runsP p 0 1)
        rw [hr1]
        exact o3
      | succ j =>
        obtain ⟨h1, h2⟩ := runsP_prev p j hpi
        obtain ⟨bl', off', e', _, hcs'⟩ := ReadsT.one bEnc (har.up q) (bitsL_get (p := p) (show j < n by omega))
        cases e'
        have hc2 := hcs' _ rfl
        cases hpj : p j with
        | true =>
          rw [hpj] at hc2
          obtain ⟨r, hr, he, hl⟩ := h1 hpj
          obtain ⟨hg, hs, hpos⟩ := set_last (y := (r.1, r.2 + 1)) hr rfl
          rcases o.block with ⟨_, h0⟩ | ⟨g, cp, rfl, hcp, hbg, hgl⟩
          · rw [h0] at hr; cases hr
          obtain ⟨L, hL⟩ : ∃ L, (runsP p 0 (j + 1)).length = L := ⟨_, rfl⟩
          rw [hL] at hg hs hpos hcp hln ⊢
          have o0 := o
          rw [hL] at o0
          obtain ⟨b2, off2, e2, _, hcl⟩ := (o0.reads rEnc).get rEnc hg
          cases e2
          have hcl2 : W.cell? ⟨g, 0 + (L - 1) * 2 + 1, none⟩ = some (.int .i64 (r.2 : Int)) := hcl.at (j := 1) rfl
          (refine CC.seq ?_; refine CC.seq ?_; refine CC.region ?_; refine LL.val (R.move rfl rfl) rfl rfl rfl ?_; refine LL.val (R.move rfl rfl) rfl rfl rfl ?_; refine LL.val (R.len rfl rfl rfl rfl) rfl rfl rfl ?_; refine LL.val (R.ltT rfl rfl rfl (by omega)) rfl rfl rfl ?_; refine LL.nilS ?_; refine CC.yes rfl ?_; refine CC.skip ?_; refine EE.thenN ?_; refine CC.seq ?_; refine CC.block ?_; refine CC.seq ?_; refine CC.region ?_; refine LL.val (R.move rfl rfl) rfl rfl rfl ?_; refine LL.val (R.move rfl rfl) rfl rfl rfl ?_; refine LL.val (R.index rfl rfl rfl (I.ixS1 rfl (by omega))) rfl rfl rfl ?_; refine LL.val (R.load rfl rfl (I.ld1 rfl (by assumption))) rfl rfl rfl ?_; refine LL.val (R.move rfl rfl) rfl rfl rfl ?_; refine LL.val (R.move rfl rfl) rfl rfl rfl ?_; refine LL.val (R.gtT rfl rfl rfl (by omega)) rfl rfl rfl ?_; refine LL.val (R.pick rfl rfl rfl) rfl rfl rfl ?_; refine LL.val (R.move rfl rfl) rfl rfl rfl ?_; refine LL.val (R.move rfl rfl) rfl rfl rfl ?_; refine LL.val (R.move rfl rfl) rfl rfl rfl ?_; refine LL.val (R.subNc rfl rfl rfl rfl (by omega) (by omega)) rfl rfl rfl ?_; refine LL.val (R.index rfl rfl rfl (I.ixS1 rfl (by omega))) rfl rfl rfl ?_; refine LL.val (R.load rfl rfl (I.ld1 rfl (by assumption))) rfl rfl rfl ?_; refine LL.val (R.pick rfl rfl rfl) rfl rfl rfl ?_; refine LL.nilS ?_; refine CC.yes rfl ?_; refine CC.region ?_; refine LL.val (R.move rfl rfl) rfl rfl rfl ?_; refine LL.val (R.move rfl rfl) rfl rfl rfl ?_; refine LL.val (R.len rfl rfl rfl rfl) rfl rfl rfl ?_; refine LL.val (R.subNc rfl rfl rfl rfl (by omega) (by omega)) rfl rfl rfl ?_; refine LL.val (R.index rfl rfl rfl (I.ixS rfl (by omega))) rfl rfl rfl ?_; refine LL.val (R.field rfl rfl (I.fld rfl)) rfl rfl rfl ?_; refine LL.val (R.load rfl rfl (I.ld1 rfl (by assumption))) rfl rfl rfl ?_; refine LL.val (R.addNc rfl rfl rfl rfl (by omega)) rfl rfl rfl ?_; refine LL.val (R.index rfl rfl rfl (I.ixS rfl (by omega))) rfl rfl rfl ?_; refine LL.val (R.field rfl rfl (I.fld rfl)) rfl rfl rfl ?_)
          refine LL.storeF (L - 1) 1 r (r.1, r.2 + 1) rfl rfl rfl rfl (by show 0 + (L - 1) * 2 + 1 = (L - 1) * 2 + 1; omega) rEnc o0 hg (by omega) rfl rfl rfl rfl rfl ?_
          intro W2 o2 g2 z2
          (refine LL.nil ?_; refine EE.inN ?_; refine EE.thenN ?_; refine CC.region ?_; refine LL.val (R.move rfl rfl) rfl rfl rfl ?_; refine LL.val (R.addNc rfl rfl rfl rfl (by omega)) rfl rfl rfl ?_; refine LL.val (R.assign rfl rfl) rfl rfl rfl ?_; refine LL.nil ?_)
          refine EE.round (j + 2, _) ⟨rfl, rfl, rfl, trivial⟩ ⟨by show j + 2 ≤ n; omega, q.grown g2 q.size (by rintro k ⟨⟩; omega), ?_⟩ (by show n - (j + 2) < n - (j + 1); omega)
          show OwnsT rE 2 W2 w.heap.size _ _ (runsP p 0 (j + 2))
          rw [hl, ← hs]
          exact o2
        | false =>
          rw [hpj] at hc2
          have hr1 := h2 hpj
          (refine CC.seq ?_; refine CC.seq ?_; refine CC.region ?_; refine LL.val (R.move rfl rfl) rfl rfl rfl ?_; refine LL.val (R.move rfl rfl) rfl rfl rfl ?_; refine LL.val (R.len rfl rfl rfl rfl) rfl rfl rfl ?_; refine LL.val (R.ltT rfl rfl rfl (by omega)) rfl rfl rfl ?_; refine LL.nilS ?_; refine CC.yes rfl ?_; refine CC.skip ?_; refine EE.thenN ?_; refine CC.seq ?_; refine CC.block ?_; refine CC.seq ?_; refine CC.region ?_; refine LL.val (R.move rfl rfl) rfl rfl rfl ?_; refine LL.val (R.move rfl rfl) rfl rfl rfl ?_; refine LL.val (R.index rfl rfl rfl (I.ixS1 rfl (by omega))) rfl rfl rfl ?_; refine LL.val (R.load rfl rfl (I.ld1 rfl (by assumption))) rfl rfl rfl ?_; refine LL.val (R.move rfl rfl) rfl rfl rfl ?_; refine LL.val (R.move rfl rfl) rfl rfl rfl ?_; refine LL.val (R.gtT rfl rfl rfl (by omega)) rfl rfl rfl ?_; refine LL.val (R.pick rfl rfl rfl) rfl rfl rfl ?_; refine LL.val (R.move rfl rfl) rfl rfl rfl ?_; refine LL.val (R.move rfl rfl) rfl rfl rfl ?_; refine LL.val (R.move rfl rfl) rfl rfl rfl ?_; refine LL.val (R.subNc rfl rfl rfl rfl (by omega) (by omega)) rfl rfl rfl ?_; refine LL.val (R.index rfl rfl rfl (I.ixS1 rfl (by omega))) rfl rfl rfl ?_; refine LL.val (R.load rfl rfl (I.ld1 rfl (by assumption))) rfl rfl rfl ?_; refine LL.val (R.pick rfl rfl rfl) rfl rfl rfl ?_; refine LL.nilS ?_; refine CC.no rfl ?_; refine CC.seq ?_; refine CC.region ?_; refine LL.val (R.move rfl rfl) rfl rfl rfl ?_; refine LL.val (R.move rfl rfl) rfl rfl rfl ?_; refine LL.val (R.index rfl rfl rfl (I.ixS1 rfl (by omega))) rfl rfl rfl ?_; refine LL.val (R.load rfl rfl (I.ld1 rfl (by assumption))) rfl rfl rfl ?_; refine LL.nilS ?_; refine CC.yes rfl ?_; refine CC.region ?_; refine LL.val (R.move rfl rfl) rfl rfl rfl ?_; refine LL.val (R.move rfl rfl) rfl rfl rfl ?_)
          refine LL.val (R.buildV rfl rfl (v := .agg (rE (j + 1, 1)).toArray) (fun _ => by kernel_rfl)) rfl rfl rfl ?_
          refine LL.lit (e := 57) (rE (j + 1, 1)) 1 rfl rfl (fun _ => by kernel_rfl) rfl rfl ?_
          intro W2 g eg r zg b
          have rd : ReadsT rE 2 W2 (.slice (some ⟨g, 0, none⟩) 1 1) [(j + 1, 1)] := RowL.readsT (ts := [(j + 1, 1)]) rEnc (by simpa using r) 1 (by simp)
          refine LL.appendT2 rfl rfl rEnc ElRun (o.up b) rd (by simp only [List.length_singleton, maxLen]; omega) (by simp only [List.length_singleton]; omega) (by have := q.size; have := b.size; omega) rfl rfl ?_
          intro v' W3 o3 g3 _
          (refine LL.val (R.assign rfl rfl) rfl rfl rfl ?_; refine LL.nil ?_; refine EE.inN ?_; refine EE.thenN ?_; refine CC.region ?_; refine LL.val (R.move rfl rfl) rfl rfl rfl ?_; refine LL.val (R.addNc rfl rfl rfl rfl (by omega)) rfl rfl rfl ?_; refine LL.val (R.assign rfl rfl) rfl rfl rfl ?_; refine LL.nil ?_)
          refine EE.round (j + 2, v') ⟨rfl, rfl, rfl, trivial⟩ ⟨by show j + 2 ≤ n; omega, (q.trans (b.mono q.size)).trans ((o.up b).bel g3 (by have := q.size; have := b.size; omega)), ?_⟩ (by show n - (j + 2) < n - (j + 1); omega)
          show OwnsT rE 2 W3 w.heap.size _ v' (runsP p 0 (j + 2))
          rw [hr1]
          exact o3
    | false =>
      rw [hpi] at hc1
      (refine CC.seq ?_; refine CC.seq ?_; refine CC.region ?_; refine LL.val (R.move rfl rfl) rfl rfl rfl ?_; refine LL.val (R.move rfl rfl) rfl rfl rfl ?_; refine LL.val (R.len rfl rfl rfl rfl) rfl rfl rfl ?_; refine LL.val (R.ltT rfl rfl rfl (by omega)) rfl rfl rfl ?_; refine LL.nilS ?_; refine CC.yes rfl ?_; refine CC.skip ?_; refine EE.thenN ?_; refine CC.seq ?_; refine CC.block ?_; refine CC.seq ?_; refine CC.region ?_; refine LL.val (R.move rfl rfl) rfl rfl rfl ?_; refine LL.val (R.move rfl rfl) rfl rfl rfl ?_; refine LL.val (R.index rfl rfl rfl (I.ixS1 rfl (by omega))) rfl rfl rfl ?_; refine LL.val (R.load rfl rfl (I.ld1 rfl (by assumption))) rfl rfl rfl ?_; refine LL.val (R.move rfl rfl) rfl rfl rfl ?_; refine LL.skip rfl rfl ?_; refine LL.skip rfl rfl ?_; refine LL.val (R.pick rfl rfl rfl) rfl rfl rfl ?_; refine LL.val (R.move rfl rfl) rfl rfl rfl ?_; refine LL.skip rfl rfl ?_; refine LL.skip rfl rfl ?_; refine LL.skip rfl rfl ?_; refine LL.skip rfl rfl ?_; refine LL.skip rfl rfl ?_; refine LL.val (R.pick rfl rfl rfl) rfl rfl rfl ?_; refine LL.nilS ?_; refine CC.no rfl ?_; refine CC.seq ?_; refine CC.region ?_; refine LL.val (R.move rfl rfl) rfl rfl rfl ?_; refine LL.val (R.move rfl rfl) rfl rfl rfl ?_; refine LL.val (R.index rfl rfl rfl (I.ixS1 rfl (by omega))) rfl rfl rfl ?_; refine LL.val (R.load rfl rfl (I.ld1 rfl (by assumption))) rfl rfl rfl ?_; refine LL.nilS ?_; refine CC.no rfl ?_; refine CC.skip ?_; refine EE.inN ?_; refine EE.thenN ?_; refine CC.region ?_; refine LL.val (R.move rfl rfl) rfl rfl rfl ?_; refine LL.val (R.addNc rfl rfl rfl rfl (by omega)) rfl rfl rfl ?_; refine LL.val (R.assign rfl rfl) rfl rfl rfl ?_; refine LL.nil ?_)
      refine EE.round (i + 1, v) ⟨rfl, rfl, rfl, trivial⟩ ⟨by show i + 1 ≤ n; omega, q, ?_⟩ (by show n - (i + 1) < n - i; omega)
      show OwnsT rE 2 W w.heap.size _ v (runsP p 0 (i + 1))
      rw [runsP_off (by rw [Nat.zero_add]; exact hpi)]
      exact o
  · obtain rfl : i = n := by omega
    (refine CC.seq ?_; refine CC.seq ?_; refine CC.region ?_; refine LL.val (R.move rfl rfl) rfl rfl rfl ?_; refine LL.val (R.move rfl rfl) rfl rfl rfl ?_; refine LL.val (R.len rfl rfl rfl rfl) rfl rfl rfl ?_; refine LL.val (R.ltF rfl rfl rfl (by omega)) rfl rfl rfl ?_; refine LL.nilS ?_; refine CC.no rfl ?_; refine CC.exit ?_; refine EE.thenX ?_; refine EE.thenX ?_; refine EE.inX ?_; refine EE.thenN ?_; refine CC.seq ?_; refine CC.region ?_; refine LL.val (R.move rfl rfl) rfl rfl rfl ?_; refine LL.val (R.assign rfl rfl) rfl rfl rfl ?_; refine LL.nilS ?_; refine CC.ret ?_)
    refine EE.ret _ rfl rfl ?_
    exact ⟨v, rfl, o, q⟩
end Go.Proofs.Ytojoaplbgcdapaa
