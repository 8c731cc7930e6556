/- pmem: the document's memory; with, Store, Flush, Evict. pmem: the document's Of. pmem: the document's Fence, Words. pmem: the document's Words, Open. pmem: the document's Crash. pmem: the law's same, num, is; the document's Same. -/
import Derived.Test.YtajfffoaebjnlaaPb
import Derived.Test.YtajfffoaebjnlaaTNew
namespace Go.Proofs.Ytajfffoaebjnlaa
set_option linter.unusedVariables false
set_option linter.unusedSimpArgs false
open Go.RowKit Go.Shelf
/-- The cells of a line of the document's. -/
def cX (a b q : Ln) (h : Bool) : List Value := lE a ++ (lE b ++ (lE q ++ [.bool h]))
theorem cE_cX (c : Cl) : cE c = cX c.1 c.2.1 (c.2.2.getD zL) c.2.2.isSome := rfl
theorem cX_len (a b q : Ln) (h : Bool) : (cX a b q h).length = 25 := by simp [cX, lE_len]
theorem cX_one (a b q : Ln) (h : Bool) : ∀ u ∈ cX a b q h, u.oneCell' = true := fun u hu => by
  simp only [cX, List.mem_append, List.mem_singleton] at hu
  rcases hu with h | h | h | rfl
  · exact lE_one _ u h
  · exact lE_one _ u h
  · exact lE_one _ u h
  · rfl
def stL (a : Ln) (j v : Nat) : Ln := ⟨a.1.set j v, by rw [List.length_set]; exact a.2⟩
theorem lE_st (a : Ln) (j v : Nat) : (lE a).set j (.int .u64 (v : Int)) = lE (stL a j v) := by
  unfold lE stL
  simp only [ints, List.map_set]
theorem cX_now {a b q : Ln} {h : Bool} {j v : Nat} (hj : j < 8) : (cX a b q h).set j (.int .u64 (v : Int)) = cX (stL a j v) b q h := by
  unfold cX
  rw [List.set_append_left _ _ (by rw [lE_len]; exact hj), lE_st]
theorem cX_last {a b q : Ln} {h : Bool} {j v : Nat} (hj : j < 8) : (cX a b q h).set (8 + j) (.int .u64 (v : Int)) = cX a (stL b j v) q h := by
  unfold cX
  rw [List.set_append_right _ _ (by rw [lE_len]; omega), lE_len, show 8 + j - 8 = j by omega, List.set_append_left _ _ (by rw [lE_len]; exact hj), lE_st]
theorem cX_has {a b q : Ln} {h h' : Bool} : (cX a b q h).set 24 (.bool h') = cX a b q h' := by
  unfold cX
  rw [List.set_append_right _ _ (by rw [lE_len]; omega), lE_len, List.set_append_right _ _ (by rw [lE_len]; omega), lE_len, List.set_append_right _ _ (by rw [lE_len]; omega), lE_len]
  rfl
theorem take_l {a : Ln} {r : List Value} {k : Nat} (h : 8 ≤ k) : (lE a ++ r).take k = lE a ++ r.take (k - 8) := by
  rw [List.take_append, List.take_of_length_le (by rw [lE_len]; exact h), lE_len]
theorem drop_l {a : Ln} {r : List Value} {k : Nat} (h : 8 ≤ k) : (lE a ++ r).drop k = r.drop (k - 8) := by
  rw [List.drop_append, List.drop_of_length_le (by rw [lE_len]; exact h), lE_len, List.nil_append]
theorem cX_q {a b q x : Ln} {h : Bool} : (cX a b q h).take 16 ++ lE x ++ (cX a b q h).drop (16 + (lE x).length) = cX a b x h := by
  unfold cX
  rw [lE_len, take_l (by omega), take_l (by omega), drop_l (by omega), drop_l (by omega), drop_l (by omega)]
  simp
theorem cX_l {a b q x : Ln} {h : Bool} : (cX a b q h).take 8 ++ lE x ++ (cX a b q h).drop (8 + (lE x).length) = cX a x q h := by
  unfold cX
  rw [lE_len, take_l (by omega), drop_l (by omega), drop_l (by omega)]
  simp
theorem cX_n {a b q x : Ln} {h : Bool} : (cX a b q h).take 0 ++ lE x ++ (cX a b q h).drop (0 + (lE x).length) = cX x b q h := by
  unfold cX
  rw [lE_len, drop_l (by omega)]
  simp
section
variable {w : World} {b o : Nat} {x y q : Ln} {h : Bool}
theorem CellsN.xn (c : CellsN w ⟨b, o, none⟩ 25 (cX x y q h)) : CellsN w ⟨b, o + 0, none⟩ 8 (lE x) := c.part 0 (by unfold cX; rw [List.drop_zero, take_l (Nat.le_refl _)]; simp) (by omega)
theorem CellsN.xl (c : CellsN w ⟨b, o, none⟩ 25 (cX x y q h)) : CellsN w ⟨b, o + 8, none⟩ 8 (lE y) := c.part 8 (by unfold cX; rw [drop_l (by omega), Nat.sub_self, List.drop_zero, take_l (Nat.le_refl _)]; simp) (by omega)
theorem CellsN.xq (c : CellsN w ⟨b, o, none⟩ 25 (cX x y q h)) : CellsN w ⟨b, o + 16, none⟩ 8 (lE q) := c.part 16 (by unfold cX; rw [drop_l (by omega), drop_l (by omega), show 16 - 8 - 8 = 0 from rfl, List.drop_zero, take_l (Nat.le_refl _)]; simp) (by omega)
theorem CellsN.xh (c : CellsN w ⟨b, o, none⟩ 25 (cX x y q h)) : w.cell? ⟨b, o + 24, none⟩ = some (.bool h) := c.cell (by
  unfold cX
  rw [List.getElem?_append_right (by rw [lE_len]; omega), lE_len, List.getElem?_append_right (by rw [lE_len]; omega), lE_len, List.getElem?_append_right (by rw [lE_len]; omega), lE_len]
  rfl)
theorem CellsN.w8 (c : CellsN w ⟨b, o, none⟩ 8 (lE x)) {j v : Nat} (hv : x.1[j]? = some v) : w.cell? ⟨b, o + j, none⟩ = some (.int .u64 (v : Int)) := c.cell (by simp [lE, ints, hv])
theorem cX_cells {g e : Nat} (r : RowL w g e (cX x y q h)) : CellsN w ⟨g, 0, none⟩ 25 (cX x y q h) := r.cellsN (by rw [List.drop_zero, List.take_of_length_le (by rw [cX_len]; omega)]) (by rw [cX_len]; omega)
end
theorem ln_form (x : Ln) : ∃ a0 a1 a2 a3 a4 a5 a6 a7 : Nat, x.1 = [a0, a1, a2, a3, a4, a5, a6, a7] := by
  obtain ⟨l, hl⟩ := x
  match l, hl with
  | [a0, a1, a2, a3, a4, a5, a6, a7], _ => exact ⟨a0, a1, a2, a3, a4, a5, a6, a7, rfl⟩
theorem build_ev (a b : Ln) (w : World) : (Instr.build 70 #[(0, .agg (lE a).toArray), (1, .agg (lE b).toArray)]).run Try.prog w = .ok (.agg (cX a b zL false).toArray) w := by
  obtain ⟨a0, a1, a2, a3, a4, a5, a6, a7, ha⟩ := ln_form a
  obtain ⟨b0, b1, b2, b3, b4, b5, b6, b7, hb⟩ := ln_form b
  unfold cX lE
  rw [ha, hb]
  kernel_rfl
section
variable {P : Program} {w : World} {o : Oper} {n : Nat} {D : List Deferred} {M : Slots} {r : Option Nat} {ops : Array Oper} {Q : Exit → Act → World → Prop} {rest : List Oper} {x y : Operand} {t e g off : Nat} {a b q u : Ln} {h h' : Bool}
theorem LL.stNow (j v : Nat) (hj : j < 8) (ho : o.op = .store t x y) (hx : evM M x = some (.pointer (some ⟨g, off, none⟩))) (hoff : off = j) (hy : evM M y = some (.int .u64 (v : Int))) (hz : szB P t = some 1) (hr : RowL w g e (cX a b q h)) (hd : o.dst = none) (hg : wantB ops M o.guard = some true)
    (kk : ∀ w', RowL w' g e (cX (stL a j v) b q h) → w.grownBy w' (some g) → w'.heap.size = w.heap.size → LL r P ops Q n D M rest w') : LL r P ops Q n D M (o :: rest) w := by
  subst hoff
  refine LL.store ho hx hy hz hr (by rw [cX_len]; omega) rfl rfl hd hg ?_
  intro w' r' g' z'
  rw [cX_now hj] at r'
  exact kk w' r' g' z'
theorem LL.stQ (ho : o.op = .store t x y) (hx : evM M x = some (.pointer (some ⟨g, off, none⟩))) (hoff : off = 16) (hy : evM M y = some (.agg (lE u).toArray)) (hz : szB P t = some 8) (hr : RowL w g e (cX a b q h)) (hd : o.dst = none) (hg : wantB ops M o.guard = some true)
    (kk : ∀ w', RowL w' g e (cX a b u h) → w.grownBy w' (some g) → w'.heap.size = w.heap.size → LL r P ops Q n D M rest w') : LL r P ops Q n D M (o :: rest) w := by
  subst hoff
  refine LL.storeN (vs := lE u) ho hx hy (by rw [hz, lE_len]) hr (by rw [cX_len, lE_len]; omega) (lE_one _) hd hg ?_
  intro w' r' g' z'
  rw [cX_q] at r'
  exact kk w' r' g' z'
theorem LL.stH (ho : o.op = .store t x y) (hx : evM M x = some (.pointer (some ⟨g, off, none⟩))) (hoff : off = 24) (hy : evM M y = some (.bool h')) (hz : szB P t = some 1) (hr : RowL w g e (cX a b q h)) (hd : o.dst = none) (hg : wantB ops M o.guard = some true)
    (kk : ∀ w', RowL w' g e (cX a b q h') → w.grownBy w' (some g) → w'.heap.size = w.heap.size → LL r P ops Q n D M rest w') : LL r P ops Q n D M (o :: rest) w := by
  subst hoff
  refine LL.store ho hx hy hz hr (by rw [cX_len]; omega) rfl rfl hd hg ?_
  intro w' r' g' z'
  rw [cX_has] at r'
  exact kk w' r' g' z'
end
abbrev cV (c : Cl) : Value := .agg (cE c).toArray
theorem Try.infoCl : (Try.prog.info? 70).map (fun i => (i.zero, i.size, i.bytes)) = some (some (cV zC), 25, 200) := by kernel_rfl
theorem ElCl : ElT Try.prog 31 70 (cV zC) 25 200 := info_parts_t Try.underlying31 Try.infoCl rfl
set_option maxRecDepth 100000
set_option maxHeartbeats 8000000
/-- The document's memory, in a slice of its own. -/
def docP (s : List Cl) (N : Nat) (w0 : World) (e : Ending) (w : World) : Prop := ∃ g cap, e = .returned (.slice (some ⟨g, 0, none⟩) N cap) ∧ ReadsT cE 25 w (.slice (some ⟨g, 0, none⟩) N cap) s ∧ w0.heap.size ≤ g ∧ g < w.heap.size ∧ Below w0.heap.size w0 w
theorem with_any (s : List Cl) (N : Nat) (v : Value) (i : Nat) (c : Cl) (w : World) (hv : ReadsT cE 25 w v s) (hl : s.length = N) (hN : N ≤ 16384) (hi : i < N) : Calls Try.prog 57 #[v, .int .i64 (i : Int), cV c] w (docP (s.set i c) N w) := by
  unfold docP
  have q := Below.refl w.heap.size w
  have hvF : ∀ W, Below w.heap.size w W → ReadsT cE 25 W v s := fun W b => hv.up b
  clear hv
  refine X.fn Try.func57 rfl (n := 16) rfl rfl ?_
  refine CC.seq ?_
  refine CC.region ?_
  refine LL.box _ rfl rfl rfl rfl rfl ?_
  intro W23 g24 eg24 r25 z26 b22
  replace q := q.trans (b22.mono q.size)
  refine LL.val (R.assign rfl rfl) rfl rfl rfl ?_
  refine LL.nilS ?_
  refine CC.seq ?_
  refine CC.region ?_
  have l71 := r25.lt
  refine LL.lit (e := 70) [] 0 rfl rfl (fun _ => by kernel_rfl) rfl rfl ?_
  intro W73 g74 eg74 r75 z76 b72
  replace r25 := r25.up b72
  replace b22 := b22.trans (b72.mono b22.size)
  replace q := q.trans (b72.mono q.size)
  refine LL.val (R.move rfl rfl) rfl rfl rfl ?_
  have l104 := r75.lt
  have l105 := r25.lt
  (refine LL.append0 rfl rfl cEnc ElCl (RowL.own0 (cap := 0) (base := w.heap.size) (by assumption) rfl (by omega) (by simp [maxLen])) (hvF _ q) (by rw [hl]; simp only [maxLen]; omega) (by rw [hl]; omega) (by omega) rfl rfl ?_; intro v2 W103 o2 b100; obtain ⟨g2, cap2, rfl, hg2, hg3, hcap⟩ := ownsT_form o2 hl (by omega))
  have zb100 := b100.size
  replace r75 := r75.up b100
  replace b72 := b72.trans (b100.mono b72.size)
  replace r25 := r25.up b100
  replace b22 := b22.trans (b100.mono b22.size)
  replace q := q.trans (b100.mono q.size)
  refine LL.val (R.assign rfl rfl) rfl rfl rfl ?_
  refine LL.nilS ?_
  refine CC.seq ?_
  refine CC.region ?_
  refine LL.val (R.move rfl rfl) rfl rfl rfl ?_
  refine LL.val (R.move rfl rfl) rfl rfl rfl ?_
  (refine LL.val (R.load rfl rfl (I.ldM (cX_cells (by assumption)) rfl rfl)) rfl rfl rfl ?_)
  refine LL.val (R.index rfl rfl rfl (I.ixS rfl (by omega))) rfl rfl rfl ?_
  (refine LL.storeT (k := 25) (i := i) (u := c) rfl (by show some (Value.pointer (some ⟨g2, 0 + i * 25, none⟩)) = some (Value.pointer (some ⟨g2, i * 25, none⟩)); rw [Nat.zero_add]) rfl rfl cEnc o2 (by omega) rfl rfl ?_; clear o2; intro W236 o2 gr234)
  have zgr234 := gr234.size
  replace b22 := b22.grown gr234 b22.size (by rintro k ⟨⟩; omega)
  replace q := q.grown gr234 q.size (by rintro k ⟨⟩; omega)
  refine LL.nilS ?_
  refine CC.seq ?_
  refine CC.region ?_
  refine LL.val (R.move rfl rfl) rfl rfl rfl ?_
  refine LL.val (R.assign rfl rfl) rfl rfl rfl ?_
  refine LL.nilS ?_
  refine CC.ret ?_
  refine EE.ret _ rfl rfl ?_
  exact ⟨g2, cap2, rfl, o2.reads cEnc, hg2, by omega, q⟩
theorem dstore_any (s : List Cl) (g N cap j v : Nat) (c : Cl) (w : World) (hv : ReadsT cE 25 w (.slice (some ⟨g, 0, none⟩) N cap) s) (hl : s.length = N) (hN : N ≤ 16384) (hc : s[j / 8]? = some c) : Calls Try.prog 42 #[.slice (some ⟨g, 0, none⟩) N cap, .int .i64 (j : Int), .int .u64 (v : Int)] w (docP (s.set (j / 8) (wrC c (j % 8) v)) N w) := by
  unfold docP
  have q := Below.refl w.heap.size w
  have hi := (List.getElem?_eq_some_iff.1 hc).1
  have m1 : CellsN w ⟨g, 0 + j / 8 * 25, none⟩ 25 (cE c) := hv.elemN cEnc hc
  have lgw : g < w.heap.size := m1.lt (by omega)
  refine X.fn Try.func42 rfl (n := 23) rfl rfl ?_
  refine CC.seq ?_
  refine CC.region ?_
  refine LL.val (R.assign rfl rfl) rfl rfl rfl ?_
  refine LL.nilS ?_
  refine CC.seq ?_
  refine CC.region ?_
  refine LL.val (R.move rfl rfl) rfl rfl rfl ?_
  refine LL.val (R.move rfl rfl) rfl rfl rfl ?_
  refine LL.val (R.quoNc rfl rfl rfl rfl (by omega) (by omega)) rfl rfl rfl ?_
  refine LL.val (R.index rfl rfl rfl (I.ixS rfl (by omega))) rfl rfl rfl ?_
  refine LL.val (R.load rfl rfl (I.ldM (by assumption) rfl rfl)) rfl rfl rfl ?_
  refine LL.alloc ([Value.int IntKind.u64 0, Value.int IntKind.u64 0, Value.int IntKind.u64 0, Value.int IntKind.u64 0, Value.int IntKind.u64 0, Value.int IntKind.u64 0, Value.int IntKind.u64 0, Value.int IntKind.u64 0, Value.int IntKind.u64 0, Value.int IntKind.u64 0, Value.int IntKind.u64 0, Value.int IntKind.u64 0, Value.int IntKind.u64 0, Value.int IntKind.u64 0, Value.int IntKind.u64 0, Value.int IntKind.u64 0, Value.int IntKind.u64 0, Value.int IntKind.u64 0, Value.int IntKind.u64 0, Value.int IntKind.u64 0, Value.int IntKind.u64 0, Value.int IntKind.u64 0, Value.int IntKind.u64 0, Value.int IntKind.u64 0, Value.bool false]) rfl rfl rfl rfl rfl ?_
  intro W149 g150 eg150 r151 z152 b148
  replace hv := hv.up b148
  replace q := q.trans (b148.mono q.size)
  replace m1 := m1.up b148
  (refine LL.storeAll (vs := cX c.1 c.2.1 (c.2.2.getD zL) c.2.2.isSome) rfl rfl rfl rfl (cX_len _ _ _ _) (by assumption) rfl (cX_one _ _ _ _) rfl rfl ?_; intro W156 rx gr154 zz159; have ca := (cX_cells rx).xn; have cb := (cX_cells rx).xl; have cq := (cX_cells rx).xq; have ch := (cX_cells rx).xh)
  have zgr154 := gr154.size
  replace b148 := b148.grown gr154 b148.size (by rintro k ⟨⟩; omega)
  replace hv := hv.gr gr154 (by omega)
  replace q := q.grown gr154 q.size (by rintro k ⟨⟩; omega)
  replace m1 := m1.gr gr154 (by have := m1.lt; omega)
  refine LL.nilS ?_
  refine CC.seq ?_
  refine CC.region ?_
  refine LL.val (R.move rfl rfl) rfl rfl rfl ?_
  refine LL.val (R.remNc rfl rfl rfl rfl (by omega)) rfl rfl rfl ?_
  refine LL.val (R.move rfl rfl) rfl rfl rfl ?_
  refine LL.val (R.field rfl rfl (I.fld rfl)) rfl rfl rfl ?_
  refine LL.val (R.index rfl rfl rfl (I.ixA1 rfl (by omega))) rfl rfl rfl ?_
  (refine LL.stNow (j % 8) v (by omega) rfl rfl (by show 0 + 0 + j % 8 = j % 8; omega) rfl rfl rx rfl rfl ?_; clear rx ca cb cq ch; intro W280 rx gr278 zz283)
  have zgr278 := gr278.size
  replace b148 := b148.grown gr278 b148.size (by rintro k ⟨⟩; omega)
  replace hv := hv.gr gr278 (by omega)
  replace q := q.grown gr278 q.size (by rintro k ⟨⟩; omega)
  replace m1 := m1.gr gr278 (by have := m1.lt; omega)
  refine LL.nilS ?_
  refine CC.seq ?_
  refine CC.region ?_
  refine LL.val (R.move rfl rfl) rfl rfl rfl ?_
  refine LL.val (R.move rfl rfl) rfl rfl rfl ?_
  refine LL.val (R.quoNc rfl rfl rfl rfl (by omega) (by omega)) rfl rfl rfl ?_
  (refine LL.val (R.load rfl rfl (I.ldM (cX_cells (by assumption)) rfl rfl)) rfl rfl rfl ?_)
  have l382 := rx.lt
  (refine LL.call (R.call rfl rfl rfl) rfl rfl rfl (with_any s N _ (j / 8) (wrC c (j % 8) v) _ hv hl hN (by omega)) ?_; rintro e W381 ⟨g2, cap2, rfl, hr2, lg, lg2, b378⟩; refine ⟨_, rfl, ?_⟩)
  have zb378 := b378.size
  replace rx := rx.up b378
  replace b148 := b148.trans (b378.mono b148.size)
  replace hv := hv.up b378
  replace q := q.trans (b378.mono q.size)
  replace m1 := m1.up b378
  refine LL.val (R.assign rfl rfl) rfl rfl rfl ?_
  refine LL.nilS ?_
  refine CC.ret ?_
  refine EE.ret _ rfl rfl ?_
  exact ⟨g2, cap2, rfl, hr2, by omega, by omega, q⟩
theorem dflush_any (s : List Cl) (g N cap i : Nat) (c : Cl) (w : World) (hv : ReadsT cE 25 w (.slice (some ⟨g, 0, none⟩) N cap) s) (hl : s.length = N) (hN : N ≤ 16384) (hc : s[i]? = some c) : Calls Try.prog 32 #[.slice (some ⟨g, 0, none⟩) N cap, .int .i64 (i : Int)] w (docP (s.set i (flC c)) N w) := by
  unfold docP
  have q := Below.refl w.heap.size w
  have hi := (List.getElem?_eq_some_iff.1 hc).1
  have m1 : CellsN w ⟨g, 0 + i * 25, none⟩ 25 (cE c) := hv.elemN cEnc hc
  have lgw : g < w.heap.size := m1.lt (by omega)
  refine X.fn Try.func32 rfl (n := 18) rfl rfl ?_
  refine CC.seq ?_
  refine CC.region ?_
  refine LL.val (R.assign rfl rfl) rfl rfl rfl ?_
  refine LL.nilS ?_
  refine CC.seq ?_
  refine CC.region ?_
  refine LL.val (R.move rfl rfl) rfl rfl rfl ?_
  refine LL.val (R.move rfl rfl) rfl rfl rfl ?_
  refine LL.val (R.index rfl rfl rfl (I.ixS rfl (by omega))) rfl rfl rfl ?_
  refine LL.val (R.load rfl rfl (I.ldM (by assumption) rfl rfl)) rfl rfl rfl ?_
  refine LL.alloc ([Value.int IntKind.u64 0, Value.int IntKind.u64 0, Value.int IntKind.u64 0, Value.int IntKind.u64 0, Value.int IntKind.u64 0, Value.int IntKind.u64 0, Value.int IntKind.u64 0, Value.int IntKind.u64 0, Value.int IntKind.u64 0, Value.int IntKind.u64 0, Value.int IntKind.u64 0, Value.int IntKind.u64 0, Value.int IntKind.u64 0, Value.int IntKind.u64 0, Value.int IntKind.u64 0, Value.int IntKind.u64 0, Value.int IntKind.u64 0, Value.int IntKind.u64 0, Value.int IntKind.u64 0, Value.int IntKind.u64 0, Value.int IntKind.u64 0, Value.int IntKind.u64 0, Value.int IntKind.u64 0, Value.int IntKind.u64 0, Value.bool false]) rfl rfl rfl rfl rfl ?_
  intro W170 g171 eg171 r172 z173 b169
  replace hv := hv.up b169
  replace q := q.trans (b169.mono q.size)
  replace m1 := m1.up b169
  (refine LL.storeAll (vs := cX c.1 c.2.1 (c.2.2.getD zL) c.2.2.isSome) rfl rfl rfl rfl (cX_len _ _ _ _) (by assumption) rfl (cX_one _ _ _ _) rfl rfl ?_; intro W177 rx gr175 zz180; have ca := (cX_cells rx).xn; have cb := (cX_cells rx).xl; have cq := (cX_cells rx).xq; have ch := (cX_cells rx).xh)
  have zgr175 := gr175.size
  replace b169 := b169.grown gr175 b169.size (by rintro k ⟨⟩; omega)
  replace hv := hv.gr gr175 (by omega)
  replace q := q.grown gr175 q.size (by rintro k ⟨⟩; omega)
  replace m1 := m1.gr gr175 (by have := m1.lt; omega)
  refine LL.nilS ?_
  refine CC.seq ?_
  refine CC.region ?_
  refine LL.val (R.field rfl rfl (I.fld rfl)) rfl rfl rfl ?_
  refine LL.val (R.load rfl rfl (I.ldM (by assumption) rfl rfl)) rfl rfl rfl ?_
  refine LL.val (R.field rfl rfl (I.fld rfl)) rfl rfl rfl ?_
  (refine LL.stQ rfl rfl rfl rfl rfl rx rfl rfl ?_; clear rx ca cb cq ch; intro W278 rx gr276 zz281)
  have zgr276 := gr276.size
  replace b169 := b169.grown gr276 b169.size (by rintro k ⟨⟩; omega)
  replace hv := hv.gr gr276 (by omega)
  replace q := q.grown gr276 q.size (by rintro k ⟨⟩; omega)
  replace m1 := m1.gr gr276 (by have := m1.lt; omega)
  refine LL.val (R.field rfl rfl (I.fld rfl)) rfl rfl rfl ?_
  (refine LL.stH rfl rfl rfl rfl rfl rx rfl rfl ?_; clear rx; intro W328 rx gr326 zz331)
  have zgr326 := gr326.size
  replace b169 := b169.grown gr326 b169.size (by rintro k ⟨⟩; omega)
  replace hv := hv.gr gr326 (by omega)
  replace q := q.grown gr326 q.size (by rintro k ⟨⟩; omega)
  replace m1 := m1.gr gr326 (by have := m1.lt; omega)
  refine LL.nilS ?_
  refine CC.seq ?_
  refine CC.region ?_
  refine LL.val (R.move rfl rfl) rfl rfl rfl ?_
  refine LL.val (R.move rfl rfl) rfl rfl rfl ?_
  (refine LL.val (R.load rfl rfl (I.ldM (cX_cells (by assumption)) rfl rfl)) rfl rfl rfl ?_)
  have l436 := rx.lt
  (refine LL.call (R.call rfl rfl rfl) rfl rfl rfl (with_any s N _ (i) (flC c) _ hv hl hN (by omega)) ?_; rintro e W435 ⟨g2, cap2, rfl, hr2, lg, lg2, b432⟩; refine ⟨_, rfl, ?_⟩)
  have zb432 := b432.size
  replace rx := rx.up b432
  replace b169 := b169.trans (b432.mono b169.size)
  replace hv := hv.up b432
  replace q := q.trans (b432.mono q.size)
  replace m1 := m1.up b432
  refine LL.val (R.assign rfl rfl) rfl rfl rfl ?_
  refine LL.nilS ?_
  refine CC.ret ?_
  refine EE.ret _ rfl rfl ?_
  exact ⟨g2, cap2, rfl, hr2, by omega, by omega, q⟩
theorem devict_any (s : List Cl) (g N cap i : Nat) (c : Cl) (w : World) (hv : ReadsT cE 25 w (.slice (some ⟨g, 0, none⟩) N cap) s) (hl : s.length = N) (hN : N ≤ 16384) (hc : s[i]? = some c) : Calls Try.prog 44 #[.slice (some ⟨g, 0, none⟩) N cap, .int .i64 (i : Int)] w (docP (s.set i (evC c)) N w) := by
  unfold docP
  have q := Below.refl w.heap.size w
  have hi := (List.getElem?_eq_some_iff.1 hc).1
  have m1 : CellsN w ⟨g, 0 + i * 25, none⟩ 25 (cE c) := hv.elemN cEnc hc
  have lgw : g < w.heap.size := m1.lt (by omega)
  refine X.fn Try.func44 rfl (n := 18) rfl rfl ?_
  refine CC.seq ?_
  refine CC.region ?_
  refine LL.val (R.assign rfl rfl) rfl rfl rfl ?_
  refine LL.nilS ?_
  refine CC.seq ?_
  refine CC.region ?_
  refine LL.val (R.move rfl rfl) rfl rfl rfl ?_
  refine LL.val (R.move rfl rfl) rfl rfl rfl ?_
  refine LL.val (R.index rfl rfl rfl (I.ixS rfl (by omega))) rfl rfl rfl ?_
  refine LL.val (R.load rfl rfl (I.ldM (by assumption) rfl rfl)) rfl rfl rfl ?_
  refine LL.alloc ([Value.int IntKind.u64 0, Value.int IntKind.u64 0, Value.int IntKind.u64 0, Value.int IntKind.u64 0, Value.int IntKind.u64 0, Value.int IntKind.u64 0, Value.int IntKind.u64 0, Value.int IntKind.u64 0, Value.int IntKind.u64 0, Value.int IntKind.u64 0, Value.int IntKind.u64 0, Value.int IntKind.u64 0, Value.int IntKind.u64 0, Value.int IntKind.u64 0, Value.int IntKind.u64 0, Value.int IntKind.u64 0, Value.int IntKind.u64 0, Value.int IntKind.u64 0, Value.int IntKind.u64 0, Value.int IntKind.u64 0, Value.int IntKind.u64 0, Value.int IntKind.u64 0, Value.int IntKind.u64 0, Value.int IntKind.u64 0, Value.bool false]) rfl rfl rfl rfl rfl ?_
  intro W86 g87 eg87 r88 z89 b85
  replace hv := hv.up b85
  replace q := q.trans (b85.mono q.size)
  replace m1 := m1.up b85
  (refine LL.storeAll (vs := cX c.1 c.2.1 (c.2.2.getD zL) c.2.2.isSome) rfl rfl rfl rfl (cX_len _ _ _ _) (by assumption) rfl (cX_one _ _ _ _) rfl rfl ?_; intro W93 rx gr91 zz96; have ca := (cX_cells rx).xn; have cb := (cX_cells rx).xl; have cq := (cX_cells rx).xq; have ch := (cX_cells rx).xh)
  have zgr91 := gr91.size
  replace b85 := b85.grown gr91 b85.size (by rintro k ⟨⟩; omega)
  replace hv := hv.gr gr91 (by omega)
  replace q := q.grown gr91 q.size (by rintro k ⟨⟩; omega)
  replace m1 := m1.gr gr91 (by have := m1.lt; omega)
  refine LL.nilS ?_
  refine CC.seq ?_
  refine CC.region ?_
  refine LL.val (R.move rfl rfl) rfl rfl rfl ?_
  refine LL.val (R.move rfl rfl) rfl rfl rfl ?_
  refine LL.val (R.field rfl rfl (I.fld rfl)) rfl rfl rfl ?_
  refine LL.val (R.load rfl rfl (I.ldM (by assumption) rfl rfl)) rfl rfl rfl ?_
  refine LL.val (R.field rfl rfl (I.fld rfl)) rfl rfl rfl ?_
  refine LL.val (R.load rfl rfl (I.ldM (by assumption) rfl rfl)) rfl rfl rfl ?_
  (refine LL.val (R.build' rfl rfl (build_ev c.1 c.1 _)) rfl rfl rfl ?_)
  have l205 := rx.lt
  (refine LL.call (R.call rfl rfl rfl) rfl rfl rfl (with_any s N _ (i) (evC c) _ hv hl hN (by omega)) ?_; rintro e W204 ⟨g2, cap2, rfl, hr2, lg, lg2, b201⟩; refine ⟨_, rfl, ?_⟩)
  have zb201 := b201.size
  replace rx := rx.up b201
  replace ca := ca.up b201
  replace cb := cb.up b201
  replace cq := cq.up b201
  replace ch := cell_up ch b201
  replace b85 := b85.trans (b201.mono b85.size)
  replace hv := hv.up b201
  replace q := q.trans (b201.mono q.size)
  replace m1 := m1.up b201
  refine LL.val (R.assign rfl rfl) rfl rfl rfl ?_
  refine LL.nilS ?_
  refine CC.ret ?_
  refine EE.ret _ rfl rfl ?_
  exact ⟨g2, cap2, rfl, hr2, by omega, by omega, q⟩
set_option maxRecDepth 100000
set_option maxHeartbeats 8000000
theorem there_T (a0 : Option Addr) (N cp : Nat) (a : Int) (w : World) (hN : N ≤ 16384) (h : 0 ≤ a ∧ a < ((8 * N : Nat) : Int)) : Calls Try.prog 40 #[.slice a0 N cp, .int .i64 a] w fun e w' => e = .returned (.bool true) ∧ w = w' := by
  refine X.fn Try.func40 rfl (n := 14) rfl rfl ?_
  refine CC.seq ?_
  refine CC.region ?_
  refine LL.val (R.assign rfl rfl) rfl rfl rfl ?_
  refine LL.nilS ?_
  refine CC.seq ?_
  refine CC.region ?_
  refine LL.val (R.move rfl rfl) rfl rfl rfl ?_
  refine LL.val (R.geT rfl rfl rfl (by omega)) rfl rfl rfl ?_
  refine LL.val (R.move rfl rfl) rfl rfl rfl ?_
  refine LL.val (R.move rfl rfl) rfl rfl rfl ?_
  refine LL.val (R.move rfl rfl) rfl rfl rfl ?_
  refine LL.val (R.len rfl rfl rfl rfl) rfl rfl rfl ?_
  refine LL.val (R.mulcN rfl rfl rfl rfl (by omega)) rfl rfl rfl ?_
  refine LL.val (R.ltT rfl rfl rfl (by omega)) rfl rfl rfl ?_
  refine LL.val (R.pick rfl rfl rfl) rfl rfl rfl ?_
  refine LL.val (R.assign rfl rfl) rfl rfl rfl ?_
  refine LL.nilS ?_
  refine CC.ret ?_
  refine EE.ret _ rfl rfl ?_
  exact ⟨rfl, rfl⟩
--C ref07_Memory_There | there_F _ _ _ _ @w @p @p | S
theorem there_F (a0 : Option Addr) (N cp : Nat) (a : Int) (w : World) (hN : N ≤ 16384) (h : a < 0 ∨ ((8 * N : Nat) : Int) ≤ a) : Calls Try.prog 40 #[.slice a0 N cp, .int .i64 a] w fun e w' => e = .returned (.bool false) ∧ w = w' := by
  refine X.fn Try.func40 rfl (n := 14) rfl rfl ?_
  refine CC.seq ?_
  refine CC.region ?_
  refine LL.val (R.assign rfl rfl) rfl rfl rfl ?_
  refine LL.nilS ?_
  refine CC.seq ?_
  refine CC.region ?_
  refine LL.val (R.move rfl rfl) rfl rfl rfl ?_
  refine LL.vsplit (fun h => R.geT rfl rfl rfl h) (fun h => R.geF rfl rfl rfl (Int.not_le.1 h)) rfl rfl rfl (fun c1 => ?_) (fun c1 => ?_)
  refine LL.val (R.move rfl rfl) rfl rfl rfl ?_
  refine LL.val (R.move rfl rfl) rfl rfl rfl ?_
  refine LL.val (R.move rfl rfl) rfl rfl rfl ?_
  refine LL.val (R.len rfl rfl rfl rfl) rfl rfl rfl ?_
  refine LL.val (R.mulcN rfl rfl rfl rfl (by omega)) rfl rfl rfl ?_
  refine LL.val (R.ltF rfl rfl rfl (by omega)) rfl rfl rfl ?_
  refine LL.val (R.pick rfl rfl rfl) rfl rfl rfl ?_
  refine LL.val (R.assign rfl rfl) rfl rfl rfl ?_
  refine LL.nilS ?_
  refine CC.ret ?_
  refine EE.ret _ rfl rfl ?_
  exact ⟨rfl, rfl⟩
  refine LL.val (R.move rfl rfl) rfl rfl rfl ?_
  refine LL.skip rfl rfl ?_
  refine LL.skip rfl rfl ?_
  refine LL.skip rfl rfl ?_
  refine LL.skip rfl rfl ?_
  refine LL.skip rfl rfl ?_
  refine LL.val (R.pick rfl rfl rfl) rfl rfl rfl ?_
  refine LL.val (R.assign rfl rfl) rfl rfl rfl ?_
  refine LL.nilS ?_
  refine CC.ret ?_
  refine EE.ret _ rfl rfl ?_
  exact ⟨rfl, rfl⟩
--C ref07_Memory_HasLine | hasl_T _ _ _ _ @w @p @p | S
theorem hasl_T (a0 : Option Addr) (N cp : Nat) (a : Int) (w : World) (hN : N ≤ 16384) (h : 0 ≤ a ∧ a < (N : Int)) : Calls Try.prog 41 #[.slice a0 N cp, .int .i64 a] w fun e w' => e = .returned (.bool true) ∧ w = w' := by
  refine X.fn Try.func41 rfl (n := 13) rfl rfl ?_
  refine CC.seq ?_
  refine CC.region ?_
  refine LL.val (R.assign rfl rfl) rfl rfl rfl ?_
  refine LL.nilS ?_
  refine CC.seq ?_
  refine CC.region ?_
  refine LL.val (R.move rfl rfl) rfl rfl rfl ?_
  refine LL.val (R.geT rfl rfl rfl (by omega)) rfl rfl rfl ?_
  refine LL.val (R.move rfl rfl) rfl rfl rfl ?_
  refine LL.val (R.move rfl rfl) rfl rfl rfl ?_
  refine LL.val (R.move rfl rfl) rfl rfl rfl ?_
  refine LL.val (R.len rfl rfl rfl rfl) rfl rfl rfl ?_
  refine LL.val (R.ltT rfl rfl rfl (by omega)) rfl rfl rfl ?_
  refine LL.val (R.pick rfl rfl rfl) rfl rfl rfl ?_
  refine LL.val (R.assign rfl rfl) rfl rfl rfl ?_
  refine LL.nilS ?_
  refine CC.ret ?_
  refine EE.ret _ rfl rfl ?_
  exact ⟨rfl, rfl⟩
--C ref07_Memory_HasLine | hasl_F _ _ _ _ @w @p @p | S
theorem hasl_F (a0 : Option Addr) (N cp : Nat) (a : Int) (w : World) (hN : N ≤ 16384) (h : a < 0 ∨ (N : Int) ≤ a) : Calls Try.prog 41 #[.slice a0 N cp, .int .i64 a] w fun e w' => e = .returned (.bool false) ∧ w = w' := by
  refine X.fn Try.func41 rfl (n := 13) rfl rfl ?_
  refine CC.seq ?_
  refine CC.region ?_
  refine LL.val (R.assign rfl rfl) rfl rfl rfl ?_
  refine LL.nilS ?_
  refine CC.seq ?_
  refine CC.region ?_
  refine LL.val (R.move rfl rfl) rfl rfl rfl ?_
  refine LL.vsplit (fun h => R.geT rfl rfl rfl h) (fun h => R.geF rfl rfl rfl (Int.not_le.1 h)) rfl rfl rfl (fun c1 => ?_) (fun c1 => ?_)
  refine LL.val (R.move rfl rfl) rfl rfl rfl ?_
  refine LL.val (R.move rfl rfl) rfl rfl rfl ?_
  refine LL.val (R.move rfl rfl) rfl rfl rfl ?_
  refine LL.val (R.len rfl rfl rfl rfl) rfl rfl rfl ?_
  refine LL.val (R.ltF rfl rfl rfl (by omega)) rfl rfl rfl ?_
  refine LL.val (R.pick rfl rfl rfl) rfl rfl rfl ?_
  refine LL.val (R.assign rfl rfl) rfl rfl rfl ?_
  refine LL.nilS ?_
  refine CC.ret ?_
  refine EE.ret _ rfl rfl ?_
  exact ⟨rfl, rfl⟩
  refine LL.val (R.move rfl rfl) rfl rfl rfl ?_
  refine LL.skip rfl rfl ?_
  refine LL.skip rfl rfl ?_
  refine LL.skip rfl rfl ?_
  refine LL.skip rfl rfl ?_
  refine LL.val (R.pick rfl rfl rfl) rfl rfl rfl ?_
  refine LL.val (R.assign rfl rfl) rfl rfl rfl ?_
  refine LL.nilS ?_
  refine CC.ret ?_
  refine EE.ret _ rfl rfl ?_
  exact ⟨rfl, rfl⟩
--C ref07_Right | right_T _ @w @p | S
theorem right_T (a : Int) (w : World) (h : 8 ≤ a ∧ a ≤ 131072 ∧ a % 8 = 0) : Calls Try.prog 9 #[.int .i64 a] w fun e w' => e = .returned (.bool true) ∧ w = w' := by
  refine X.fn Try.func9 rfl (n := 14) rfl rfl ?_
  refine CC.seq ?_
  refine CC.region ?_
  refine LL.val (R.assign rfl rfl) rfl rfl rfl ?_
  refine LL.nilS ?_
  refine CC.seq ?_
  refine CC.region ?_
  refine LL.val (R.move rfl rfl) rfl rfl rfl ?_
  refine LL.val (R.geT rfl rfl rfl (by omega)) rfl rfl rfl ?_
  refine LL.val (R.move rfl rfl) rfl rfl rfl ?_
  refine LL.val (R.move rfl rfl) rfl rfl rfl ?_
  refine LL.val (R.leT rfl rfl rfl (by omega)) rfl rfl rfl ?_
  refine LL.val (R.pick rfl rfl rfl) rfl rfl rfl ?_
  refine LL.val (R.move rfl rfl) rfl rfl rfl ?_
  refine LL.val (R.move rfl rfl) rfl rfl rfl ?_
  refine LL.val (R.remIc rfl rfl rfl rfl (by omega) (by omega)) rfl rfl rfl ?_
  refine LL.val (R.eqT rfl rfl rfl (by omega)) rfl rfl rfl ?_
  refine LL.val (R.pick rfl rfl rfl) rfl rfl rfl ?_
  refine LL.val (R.assign rfl rfl) rfl rfl rfl ?_
  refine LL.nilS ?_
  refine CC.ret ?_
  refine EE.ret _ rfl rfl ?_
  exact ⟨rfl, rfl⟩
--C ref07_Right | right_F _ @w @p | S
theorem right_F (a : Int) (w : World) (h : a < 8 ∨ 131072 < a ∨ a % 8 ≠ 0) : Calls Try.prog 9 #[.int .i64 a] w fun e w' => e = .returned (.bool false) ∧ w = w' := by
  refine X.fn Try.func9 rfl (n := 14) rfl rfl ?_
  refine CC.seq ?_
  refine CC.region ?_
  refine LL.val (R.assign rfl rfl) rfl rfl rfl ?_
  refine LL.nilS ?_
  refine CC.seq ?_
  refine CC.region ?_
  refine LL.val (R.move rfl rfl) rfl rfl rfl ?_
  refine LL.vsplit (fun h => R.geT rfl rfl rfl h) (fun h => R.geF rfl rfl rfl (Int.not_le.1 h)) rfl rfl rfl (fun c1 => ?_) (fun c1 => ?_)
  refine LL.val (R.move rfl rfl) rfl rfl rfl ?_
  refine LL.val (R.move rfl rfl) rfl rfl rfl ?_
  refine LL.vsplit (fun h => R.leT rfl rfl rfl h) (fun h => R.leF rfl rfl rfl (Int.not_le.1 h)) rfl rfl rfl (fun c2 => ?_) (fun c2 => ?_)
  refine LL.val (R.pick rfl rfl rfl) rfl rfl rfl ?_
  refine LL.val (R.move rfl rfl) rfl rfl rfl ?_
  refine LL.val (R.move rfl rfl) rfl rfl rfl ?_
  refine LL.val (R.remIc rfl rfl rfl rfl (by omega) (by omega)) rfl rfl rfl ?_
  refine LL.val (R.eqF rfl rfl rfl (by omega)) rfl rfl rfl ?_
  refine LL.val (R.pick rfl rfl rfl) rfl rfl rfl ?_
  refine LL.val (R.assign rfl rfl) rfl rfl rfl ?_
  refine LL.nilS ?_
  refine CC.ret ?_
  refine EE.ret _ rfl rfl ?_
  exact ⟨rfl, rfl⟩
  refine LL.val (R.pick rfl rfl rfl) rfl rfl rfl ?_
  refine LL.val (R.move rfl rfl) rfl rfl rfl ?_
  refine LL.skip rfl rfl ?_
  refine LL.skip rfl rfl ?_
  refine LL.skip rfl rfl ?_
  refine LL.val (R.pick rfl rfl rfl) rfl rfl rfl ?_
  refine LL.val (R.assign rfl rfl) rfl rfl rfl ?_
  refine LL.nilS ?_
  refine CC.ret ?_
  refine EE.ret _ rfl rfl ?_
  exact ⟨rfl, rfl⟩
  refine LL.val (R.move rfl rfl) rfl rfl rfl ?_
  refine LL.skip rfl rfl ?_
  refine LL.skip rfl rfl ?_
  refine LL.val (R.pick rfl rfl rfl) rfl rfl rfl ?_
  refine LL.val (R.move rfl rfl) rfl rfl rfl ?_
  refine LL.skip rfl rfl ?_
  refine LL.skip rfl rfl ?_
  refine LL.skip rfl rfl ?_
  refine LL.val (R.pick rfl rfl rfl) rfl rfl rfl ?_
  refine LL.val (R.assign rfl rfl) rfl rfl rfl ?_
  refine LL.nilS ?_
  refine CC.ret ?_
  refine EE.ret _ rfl rfl ?_
  exact ⟨rfl, rfl⟩
section
variable {α : Type} {enc : α → List Value} {k : Nat} {P : Program} {w : World} {o : Oper} {n : Nat} {D : List Deferred} {M : Slots} {e : TypeId} {ops : Array Oper} {ok : World → Prop} {K : Slots → World → Prop}
theorem ZR.store1 {jj : Nat} {x y : Operand} {t : TypeId} {g off : Nat} {ts : List α} {v : Value} (i c : Nat) (s u : α) (hj : ops[jj]? = some o) (ho : o.op = .store t x y) (hx : evM M x = some (.pointer (some ⟨g, off, none⟩))) (hy : evM M y = some v) (hz : szB P t = some 1) (hoff : off = i * k + c) (E : Enc enc k)
    (hr : RowL w g e (ts.flatMap enc)) (hs : ts[i]? = some s) (hc : c < k) (hu : enc u = (enc s).set c v) (h1 : v.oneCell' = true) (hcs : v.cells = #[v]) (hd : o.dst = none) (hg : wantB ops M o.guard = some true)
    (kk : ∀ w', RowL w' g e ((ts.set i u).flatMap enc) → w.grownBy w' (some g) → w'.heap.size = w.heap.size → ok w' ∧ K M w') : SR P ops ok jj K n D M w := by
  have hi : i < ts.length := (List.getElem?_eq_some_iff.1 hs).1
  have hin : i * k + k ≤ ts.length * k := by
    have : (i + 1) * k ≤ ts.length * k := Nat.mul_le_mul_right _ hi
    rw [Nat.add_mul] at this
    omega
  have hf := E.flat ts
  subst hoff
  refine ZR.store hj ho hx hy hz hr (by omega) h1 hcs hd hg ?_
  intro w' r' g' z'
  refine kk w' ?_ g' z'
  rw [← E.setF ts i c s u v hs hc hu]
  exact r'
end
theorem cE_rep (N : Nat) : (List.replicate N (cE zC)).flatten = (List.replicate N zC).flatMap cE := by
  unfold List.flatMap
  rw [List.map_replicate]
def lstC (c : Cl) (j v : Nat) : Cl := (c.1, stL c.2.1 j v, c.2.2)
theorem cE_now (c : Cl) (j v : Nat) (hj : j < 8) : cE (wrC c j v) = (cE c).set j (.int .u64 (v : Int)) := by
  rw [cE_cX, cE_cX, cX_now hj]
  rfl
theorem cE_last (c : Cl) (j v : Nat) (hj : j < 8) : cE (lstC c j v) = (cE c).set (8 + j) (.int .u64 (v : Int)) := by
  rw [cE_cX, cE_cX, cX_last hj]
  rfl
theorem dof_any (a : Option Addr) (L cp N : Nat) (ws : List Nat) (w : World) (hv : ReadsT uE 1 w (.slice a L cp) ws) (hL : L = N * 8) (h0 : 0 < N) (hN : N ≤ 16384) : Calls Try.prog 12 #[.slice a L cp] w (docP (ofS N ws) N w) := by
  unfold docP
  have q := Below.refl w.heap.size w
  have hlen : ws.length = L := by obtain ⟨_, _, e, _⟩ := hv; cases e; rfl
  have hvF : ∀ W, Below w.heap.size w W → ReadsT uE 1 W (.slice a L cp) ws := fun W hb => hv.up hb
  clear hv
  have e8 : L / 8 = N := by omega
  refine X.fn Try.func12 rfl (n := 40) rfl rfl ?_
  refine CC.seq ?_
  refine CC.region ?_
  refine LL.val (R.assign rfl rfl) rfl rfl rfl ?_
  refine LL.nilS ?_
  refine CC.seq ?_
  refine CC.region ?_
  refine LL.val (R.move rfl rfl) rfl rfl rfl ?_
  refine LL.val (R.len rfl rfl rfl rfl) rfl rfl rfl ?_
  refine LL.val (R.quoNc rfl rfl rfl rfl (by omega) (by omega)) rfl rfl rfl ?_
  (refine LL.makeE (l := N) (m := N) (zs := cE zC) ElCl rfl (by decide) rfl (by show some (Value.int .i64 ((L / 8 : Nat) : Int)) = _; rw [e8]) (by show some (Value.int .i64 ((L / 8 : Nat) : Int)) = _; rw [e8]) (Nat.le_refl _) (by omega) (by omega) rfl rfl ?_; intro W32 g1 eg1 r1 zg1 b29; rw [cE_rep] at r1)
  have zb29 := b29.size
  replace q := q.trans (b29.mono q.size)
  refine LL.val (R.assign rfl rfl) rfl rfl rfl ?_
  refine LL.nilS ?_
  refine CC.seq ?_
  refine CC.seq ?_
  refine CC.region ?_
  refine LL.val (R.assign rfl rfl) rfl rfl rfl ?_
  refine LL.nilS ?_
  refine CC.block ?_
  have hst : List.replicate N zC = (lnS N (ws.take 0)).map nwC := by
    rw [List.take_zero, lnS_nil, List.map_replicate]
    rfl
  rw [hst] at r1
  have hmd : ∀ k i, i < N → ((lnS N (ws.take k)).map nwC)[i]? = some (nwC (lnAt (ws.take k) i)) := fun k i hi => by
    rw [List.getElem?_map, lnS_at _ hi]
    rfl
  have yq := q.size
  refine CC.loop (α := Nat) (fun k => [(0, .slice a L cp), (3, .slice (some ⟨g1, 0, none⟩) N N), (4, .int .i64 (k : Int))]) (fun k W => k ≤ L ∧ Below w.heap.size w W ∧ RowL W g1 70 (((lnS N (ws.take k)).map nwC).flatMap cE)) (fun k => L - k) 0 ⟨rfl, rfl, rfl, trivial⟩ ⟨by show 0 ≤ L; omega, q, r1⟩ ?_
  clear q r1 hst
  rintro k W ⟨hk, q, r1⟩
  show CC none Try.prog _ 40 [] (sl [(0, .slice a L cp), (3, .slice (some ⟨g1, 0, none⟩) N N), (4, .int .i64 (k : Int))]) _ W
  have yw := q.size
  by_cases hlt : k < L
  case neg =>
    obtain rfl : k = L := by omega
    rw [List.take_of_length_le (by omega)] at r1
    have hrd := r1.readsT cEnc N (by rw [List.length_map, lnS_len]; exact Nat.le_refl _)
    rw [List.length_map, lnS_len] at hrd
    refine CC.seq ?_
    refine CC.seq ?_
    refine CC.region ?_
    refine LL.val (R.move rfl rfl) rfl rfl rfl ?_
    refine LL.val (R.move rfl rfl) rfl rfl rfl ?_
    refine LL.val (R.len rfl rfl rfl rfl) rfl rfl rfl ?_
    refine LL.val (R.ltF rfl rfl rfl (by omega)) rfl rfl rfl ?_
    refine LL.nilS ?_
    refine CC.no rfl ?_
    refine CC.exit ?_
    refine EE.thenX ?_
    refine EE.thenX ?_
    refine EE.inX ?_
    refine EE.thenN ?_
    refine CC.seq ?_
    refine CC.region ?_
    refine LL.val (R.move rfl rfl) rfl rfl rfl ?_
    refine LL.val (R.assign rfl rfl) rfl rfl rfl ?_
    refine LL.nilS ?_
    refine CC.ret ?_
    refine EE.ret _ rfl rfl ?_
    exact ⟨g1, N, rfl, hrd, by omega, r1.lt, q⟩
  obtain ⟨v, hvk⟩ : ∃ v, ws[k]? = some v := ⟨_, List.getElem?_eq_getElem (by omega)⟩
  obtain ⟨b, off, rfl, hb, hcell⟩ := (hvF W q).one uEnc hvk
  have c1 : W.cell? ⟨b, off + k, none⟩ = some (.int .u64 (v : Int)) := hcell _ rfl
  have hc := hmd k (k / 8) (by omega)
  have hsx := lnS_succ (N := N) (by omega) hvk
  have hi8 : k / 8 < N := by omega
  have hc2 : (((lnS N (ws.take k)).map nwC).set (k / 8) (wrC (nwC (lnAt (ws.take k) (k / 8))) (k % 8) v))[k / 8]? = some (wrC (nwC (lnAt (ws.take k) (k / 8))) (k % 8) v) := by
    rw [List.getElem?_set, if_pos rfl, if_pos (by rw [List.length_map, lnS_len]; exact hi8)]
  have hfin : (lnS N (ws.take (k + 1))).map nwC = (((lnS N (ws.take k)).map nwC).set (k / 8) (wrC (nwC (lnAt (ws.take k) (k / 8))) (k % 8) v)).set (k / 8) (lstC (wrC (nwC (lnAt (ws.take k) (k / 8))) (k % 8) v) (k % 8) v) := by
    rw [hsx, List.map_set, List.set_set]
    rfl
  refine CC.seq ?_
  refine CC.seq ?_
  refine CC.region ?_
  refine LL.val (R.move rfl rfl) rfl rfl rfl ?_
  refine LL.val (R.move rfl rfl) rfl rfl rfl ?_
  refine LL.val (R.len rfl rfl rfl rfl) rfl rfl rfl ?_
  refine LL.val (R.ltT rfl rfl rfl (by omega)) rfl rfl rfl ?_
  refine LL.nilS ?_
  refine CC.yes rfl ?_
  refine CC.skip ?_
  refine EE.thenN ?_
  refine CC.seq ?_
  refine CC.block ?_
  refine CC.join (fun l_ Wb105 => l_ = [(0, Value.slice (some { block := b, off := off }) L cp), (3, Value.slice (some { block := g1, off := 0 }) N N), (4, Value.int IntKind.i64 ↑k), (9, Value.int IntKind.i64 ↑k), (10, Value.slice (some { block := b, off := off }) L cp), (11, Value.int IntKind.i64 ↑L), (12, Value.bool true)] ∧ (RowL Wb105 g1 70 (List.flatMap cE (((List.map nwC (lnS N (List.take k ws))).set (k / 8) (wrC (nwC (lnAt (List.take k ws) (k / 8))) (k % 8) v)).set (k / 8) (lstC (wrC (nwC (lnAt (List.take k ws) (k / 8))) (k % 8) v) (k % 8) v)))) ∧ (Below w.heap.size w Wb105) ∧ (W.heap.size ≤ Wb105.heap.size)) (fun Jb110 => ?_) ?restJb110
  case' restJb110 =>
    clear q
    rintro _ Wb105 ⟨rfl, r3, q, zb109⟩
  refine EE.inN ?_
  refine EE.thenN ?_
  refine CC.region ?_
  refine LL.val (R.move rfl rfl) rfl rfl rfl ?_
  refine LL.val (R.addNc rfl rfl rfl rfl (by omega)) rfl rfl rfl ?_
  refine LL.val (R.assign rfl rfl) rfl rfl rfl ?_
  refine LL.nil ?_
  exact EE.round (k + 1) ⟨rfl, rfl, rfl, trivial⟩ ⟨by show k + 1 ≤ L; omega, q, by rw [hfin]; exact r3⟩ (by show L - (k + 1) < L - k; omega)
  refine CC.freeZ (fun W_ j => j < W_.heap.size ∧ (j ≠ g1)) (by kernel_rfl) (by kernel_rfl) (fun Wb154 bb153 zb155 => ?_)
  replace q := q.trans (bb153.mono q.size)
  replace r1 := r1.up bb153
  replace c1 := cell_up c1 bb153
  have hok : Kept (fun j => j < Wb154.heap.size ∧ (j ≠ g1)) Wb154 Wb154 := Kept.refl _ _
  refine AA.pure 0 rfl hok (by kernel_rfl) (fun w' b' => R.move rfl rfl) rfl rfl ?_
  refine AA.pure 1 rfl hok (by kernel_rfl) (fun w' b' => R.move rfl rfl) rfl rfl ?_
  refine AA.pure 2 rfl hok (by kernel_rfl) (fun w' b' => R.quoNc rfl rfl rfl rfl (by omega) (by omega)) rfl rfl ?_
  refine AA.pure 3 rfl hok (by kernel_rfl) (fun w' b' => R.move rfl rfl) rfl rfl ?_
  refine AA.pure 4 rfl hok (by kernel_rfl) (fun w' b' => R.remNc rfl rfl rfl rfl (by omega)) rfl rfl ?_
  refine AA.pure 5 rfl hok (by kernel_rfl) (fun w' b' => R.move rfl rfl) rfl rfl ?_
  refine AA.pure 6 rfl hok (by kernel_rfl) (fun w' b' => R.move rfl rfl) rfl rfl ?_
  refine AA.pure 7 rfl hok (by kernel_rfl) (fun w' b' => R.quoNc rfl rfl rfl rfl (by omega) (by omega)) rfl rfl ?_
  refine AA.pure 8 rfl hok (by kernel_rfl) (fun w' b' => R.move rfl rfl) rfl rfl ?_
  refine AA.pure 9 rfl hok (by kernel_rfl) (fun w' b' => R.remNc rfl rfl rfl rfl (by omega)) rfl rfl ?_
  refine AA.pure 10 rfl hok (by kernel_rfl) (fun w' b' => R.move rfl rfl) rfl rfl ?_
  refine AA.pure 11 rfl hok (by kernel_rfl) (fun w' b' => R.move rfl rfl) rfl rfl ?_
  refine AA.pure 12 rfl hok (by kernel_rfl) (fun w' b' => R.index rfl rfl rfl (I.ixS1 rfl (by omega))) rfl rfl ?_
  refine AA.pure 14 rfl hok (by kernel_rfl) (fun w' b' => R.move rfl rfl) rfl rfl ?_
  refine AA.pure 15 rfl hok (by kernel_rfl) (fun w' b' => R.move rfl rfl) rfl rfl ?_
  refine AA.pure 16 rfl hok (by kernel_rfl) (fun w' b' => R.index rfl rfl rfl (I.ixS1 rfl (by omega))) rfl rfl ?_
  refine AA.pure 18 rfl hok (by kernel_rfl) (fun w' b' => R.index rfl rfl rfl (I.ixS rfl (by omega))) rfl rfl ?_
  refine AA.pure 19 rfl hok (by kernel_rfl) (fun w' b' => R.field rfl rfl (I.fld rfl)) rfl rfl ?_
  refine AA.pure 22 rfl hok (by kernel_rfl) (fun w' b' => R.index rfl rfl rfl (I.ixS rfl (by omega))) rfl rfl ?_
  refine AA.pure 23 rfl hok (by kernel_rfl) (fun w' b' => R.field rfl rfl (I.fld rfl)) rfl rfl ?_
  refine AA.two 13 17 (by kernel_rfl) ?_ ?_
  refine SR.val rfl (R.load rfl rfl (I.ld1 rfl (by assumption))) rfl rfl hok ?_
  refine AA.one 17 (by kernel_rfl) ?_
  refine SR.val rfl (R.load rfl rfl (I.ld1 rfl (by assumption))) rfl rfl hok ?_
  refine AA.pure 20 rfl hok (by kernel_rfl) (fun w' b' => R.index rfl rfl rfl (I.ixA1 rfl (by omega))) rfl rfl ?_
  refine AA.one 21 (by kernel_rfl) ?_
  (refine ZR.store1 (k / 8) (k % 8) _ (wrC (nwC (lnAt (ws.take k) (k / 8))) (k % 8) v) rfl rfl rfl rfl rfl (by show 0 + k / 8 * 25 + 0 + k % 8 = k / 8 * 25 + k % 8; omega) cEnc r1 hc (by omega) (cE_now _ _ _ (by omega)) rfl rfl rfl rfl ?_; clear r1; intro Wb187 r2 grb185 zzb190)
  have zgrb185 := grb185.size
  replace q := q.grown grb185 q.size (by rintro k ⟨⟩; omega)
  replace hok := hok.trans (grown_kept grb185 (fun j h => by have := h.1; have := hok.size; omega) (fun j h e => by cases e; have h2 := h.1; have h3 := h.2; omega))
  refine ⟨hok, ?_⟩
  refine AA.pure 24 rfl hok (by kernel_rfl) (fun w' b' => R.index rfl rfl rfl (I.ixA1 rfl (by omega))) rfl rfl ?_
  refine AA.one 25 (by kernel_rfl) ?_
  (refine ZR.store1 (k / 8) (8 + k % 8) _ (lstC (wrC (nwC (lnAt (ws.take k) (k / 8))) (k % 8) v) (k % 8) v) rfl rfl rfl rfl rfl (by show 0 + k / 8 * 25 + 8 + k % 8 = k / 8 * 25 + (8 + k % 8); omega) cEnc r2 hc2 (by omega) (cE_last _ _ _ (by omega)) rfl rfl rfl rfl ?_; clear r2; intro Wb201 r3 grb199 zzb204)
  have zgrb199 := grb199.size
  replace q := q.grown grb199 q.size (by rintro k ⟨⟩; omega)
  replace hok := hok.trans (grown_kept grb199 (fun j h => by have := h.1; have := hok.size; omega) (fun j h e => by cases e; have h2 := h.1; have h3 := h.2; omega))
  refine ⟨hok, ?_⟩
  refine AA.done rfl ?_
  clear hok
  exact EE.weak (Jb110 _ _ ⟨rfl, (by first | assumption | omega), (by first | assumption | omega), (by first | assumption | omega)⟩) ⟨rfl, rfl, rfl, rfl, rfl, rfl, rfl, trivial⟩
  refine SR.val rfl (R.load rfl rfl (I.ld1 rfl (by assumption))) rfl rfl hok ?_
  refine AA.one 13 (by kernel_rfl) ?_
  refine SR.val rfl (R.load rfl rfl (I.ld1 rfl (by assumption))) rfl rfl hok ?_
  refine AA.pure 20 rfl hok (by kernel_rfl) (fun w' b' => R.index rfl rfl rfl (I.ixA1 rfl (by omega))) rfl rfl ?_
  refine AA.one 21 (by kernel_rfl) ?_
  (refine ZR.store1 (k / 8) (k % 8) _ (wrC (nwC (lnAt (ws.take k) (k / 8))) (k % 8) v) rfl rfl rfl rfl rfl (by show 0 + k / 8 * 25 + 0 + k % 8 = k / 8 * 25 + k % 8; omega) cEnc r1 hc (by omega) (cE_now _ _ _ (by omega)) rfl rfl rfl rfl ?_; clear r1; intro Wb236 r2 grb234 zzb239)
  have zgrb234 := grb234.size
  replace q := q.grown grb234 q.size (by rintro k ⟨⟩; omega)
  replace hok := hok.trans (grown_kept grb234 (fun j h => by have := h.1; have := hok.size; omega) (fun j h e => by cases e; have h2 := h.1; have h3 := h.2; omega))
  refine ⟨hok, ?_⟩
  refine AA.pure 24 rfl hok (by kernel_rfl) (fun w' b' => R.index rfl rfl rfl (I.ixA1 rfl (by omega))) rfl rfl ?_
  refine AA.one 25 (by kernel_rfl) ?_
  (refine ZR.store1 (k / 8) (8 + k % 8) _ (lstC (wrC (nwC (lnAt (ws.take k) (k / 8))) (k % 8) v) (k % 8) v) rfl rfl rfl rfl rfl (by show 0 + k / 8 * 25 + 8 + k % 8 = k / 8 * 25 + (8 + k % 8); omega) cEnc r2 hc2 (by omega) (cE_last _ _ _ (by omega)) rfl rfl rfl rfl ?_; clear r2; intro Wb250 r3 grb248 zzb253)
  have zgrb248 := grb248.size
  replace q := q.grown grb248 q.size (by rintro k ⟨⟩; omega)
  replace hok := hok.trans (grown_kept grb248 (fun j h => by have := h.1; have := hok.size; omega) (fun j h e => by cases e; have h2 := h.1; have h3 := h.2; omega))
  refine ⟨hok, ?_⟩
  refine AA.done rfl ?_
  clear hok
  exact EE.weak (Jb110 _ _ ⟨rfl, (by first | assumption | omega), (by first | assumption | omega), (by first | assumption | omega)⟩) ⟨rfl, rfl, rfl, rfl, rfl, rfl, rfl, trivial⟩
/-- The first i of a list done. -/
def mixS {α : Type} (f : α → α) (s : List α) (i : Nat) : List α := (s.take i).map f ++ s.drop i
section
variable {α : Type} {f : α → α} {s : List α} {i : Nat} {c : α}
theorem mix_0 : mixS f s 0 = s := by simp [mixS]
theorem mix_end (h : s.length ≤ i) : mixS f s i = s.map f := by
  unfold mixS
  rw [List.take_of_length_le h, List.drop_of_length_le h, List.append_nil]
theorem mix_len : (mixS f s i).length = s.length := by
  unfold mixS
  rw [List.length_append, List.length_map, List.length_take, List.length_drop]
  omega
theorem mix_at (hc : s[i]? = some c) : (mixS f s i)[i]? = some c := by
  have h := (List.getElem?_eq_some_iff.1 hc).1
  unfold mixS
  rw [List.getElem?_append_right (by rw [List.length_map, List.length_take]; omega), List.length_map, List.length_take, List.getElem?_drop, show i + (i - min i s.length) = i by omega]
  exact hc
theorem mix_set (hc : s[i]? = some c) : (mixS f s i).set i (f c) = mixS f s (i + 1) := by
  obtain ⟨h, hv⟩ := List.getElem?_eq_some_iff.1 hc
  unfold mixS
  have hl : ((s.take i).map f).length = i := by rw [List.length_map, List.length_take]; omega
  rw [List.set_append_right _ _ (by omega), hl, Nat.sub_self, List.drop_eq_getElem_cons h, List.set_cons_zero, List.take_add_one, hc]
  simp
end
set_option maxRecDepth 100000
set_option maxHeartbeats 8000000
theorem dfence_any (s : List Cl) (N : Nat) (v : Value) (w : World) (hv : ReadsT cE 25 w v s) (hl : s.length = N) (h0 : 0 < N) (hN : N ≤ 16384) : Calls Try.prog 43 #[v] w (docP (s.map feC) N w) := by
  unfold docP
  have q := Below.refl w.heap.size w
  have hvF : ∀ W, Below w.heap.size w W → ReadsT cE 25 W v s := fun W b => hv.up b
  clear hv
  refine X.fn Try.func43 rfl (n := 38) rfl rfl ?_
  refine CC.seq ?_
  refine CC.region ?_
  refine LL.val (R.assign rfl rfl) rfl rfl rfl ?_
  refine LL.nilS ?_
  refine CC.seq ?_
  refine CC.region ?_
  refine LL.lit (e := 70) [] 0 rfl rfl (fun _ => by kernel_rfl) rfl rfl ?_
  intro W16 g17 eg17 r18 z19 b15
  replace q := q.trans (b15.mono q.size)
  refine LL.val (R.move rfl rfl) rfl rfl rfl ?_
  have l32 := r18.lt
  (refine LL.append0 rfl rfl cEnc ElCl (RowL.own0 (cap := 0) (base := w.heap.size) (by assumption) rfl (by omega) (by simp [maxLen])) (hvF _ q) (by rw [hl]; simp only [maxLen]; omega) (by rw [hl]; omega) (by omega) rfl rfl ?_; intro v2 W31 o2 b28; obtain ⟨g2, cap2, rfl, hg2, hg3, hcap⟩ := ownsT_form o2 hl h0)
  have zb28 := b28.size
  replace r18 := r18.up b28
  replace b15 := b15.trans (b28.mono b15.size)
  replace q := q.trans (b28.mono q.size)
  refine LL.val (R.assign rfl rfl) rfl rfl rfl ?_
  refine LL.nilS ?_
  refine CC.seq ?_
  refine CC.seq ?_
  refine CC.region ?_
  refine LL.val (R.assign rfl rfl) rfl rfl rfl ?_
  refine LL.nilS ?_
  refine CC.block ?_
  refine CC.loop (α := Nat) (fun k => [(3, .slice (some ⟨g2, 0, none⟩) N cap2), (4, .int .i64 (k : Int))]) (fun k W => k ≤ N ∧ Below w.heap.size w W ∧ g2 < W.heap.size ∧ OwnsT cE 25 W w.heap.size 70 (.slice (some ⟨g2, 0, none⟩) N cap2) (mixS feC s k)) (fun k => N - k) 0 ⟨rfl, rfl, trivial⟩ ⟨by show 0 ≤ N; omega, q, hg3, by rw [mix_0]; exact o2⟩ ?_
  clear q o2 hg3
  rintro k W ⟨hk, q, hg3, o2⟩
  show CC none Try.prog _ 38 [] (sl [(3, .slice (some ⟨g2, 0, none⟩) N cap2), (4, .int .i64 (k : Int))]) _ W
  have yw := q.size
  by_cases hlt : k < N
  case neg =>
    rw [mix_end (by omega)] at o2
    refine CC.seq ?_
    refine CC.seq ?_
    refine CC.region ?_
    refine LL.val (R.move rfl rfl) rfl rfl rfl ?_
    refine LL.val (R.move rfl rfl) rfl rfl rfl ?_
    refine LL.val (R.len rfl rfl rfl rfl) rfl rfl rfl ?_
    refine LL.val (R.ltF rfl rfl rfl (by omega)) rfl rfl rfl ?_
    refine LL.nilS ?_
    refine CC.no rfl ?_
    refine CC.exit ?_
    refine EE.thenX ?_
    refine EE.thenX ?_
    refine EE.inX ?_
    refine EE.thenN ?_
    refine CC.seq ?_
    refine CC.region ?_
    refine LL.val (R.move rfl rfl) rfl rfl rfl ?_
    refine LL.val (R.assign rfl rfl) rfl rfl rfl ?_
    refine LL.nilS ?_
    refine CC.ret ?_
    refine EE.ret _ rfl rfl ?_
    exact ⟨g2, cap2, rfl, o2.reads cEnc, hg2, hg3, q⟩
  obtain ⟨c, hc⟩ : ∃ c, s[k]? = some c := ⟨_, List.getElem?_eq_getElem (by omega)⟩
  have hat := mix_at (f := feC) hc
  have m1 : CellsN W ⟨g2, 0 + k * 25, none⟩ 25 (cX c.1 c.2.1 (c.2.2.getD zL) c.2.2.isSome) := (o2.reads cEnc).elemN cEnc hat
  have ch := m1.xh
  have cq := m1.xq
  have hml : (mixS feC s k).length = N := by rw [mix_len]; exact hl
  have zr : ∀ w, (Instr.build 68 #[]).run Try.prog w = .ok (.agg (lE zL).toArray) w := fun _ => by kernel_rfl
  have hsetl : ∀ (l1 l2 l3 : Cl), (((mixS feC s k).set k l1).set k l2).set k l3 = (mixS feC s k).set k l3 := fun _ _ _ => by rw [List.set_set, List.set_set]
  have hget : ∀ (l : List Cl) (u : Cl), k < l.length → (l.set k u)[k]? = some u := fun l u h => by rw [List.getElem?_set, if_pos rfl, if_pos h]
  cases hx : c.2.2 with
  | none =>
    rw [hx] at ch cq
    have e : feC c = (c.1, c.2.1, none) := by unfold feC; rw [hx]; rfl
    refine CC.seq ?_
    refine CC.seq ?_
    refine CC.region ?_
    refine LL.val (R.move rfl rfl) rfl rfl rfl ?_
    refine LL.val (R.move rfl rfl) rfl rfl rfl ?_
    refine LL.val (R.len rfl rfl rfl rfl) rfl rfl rfl ?_
    refine LL.val (R.ltT rfl rfl rfl (by omega)) rfl rfl rfl ?_
    refine LL.nilS ?_
    refine CC.yes rfl ?_
    refine CC.skip ?_
    refine EE.thenN ?_
    refine CC.seq ?_
    refine CC.block ?_
    refine CC.seq ?_
    refine CC.seq ?_
    refine CC.region ?_
    refine LL.val (R.move rfl rfl) rfl rfl rfl ?_
    refine LL.val (R.move rfl rfl) rfl rfl rfl ?_
    refine LL.val (R.index rfl rfl rfl (I.ixS rfl (by omega))) rfl rfl rfl ?_
    refine LL.val (R.field rfl rfl (I.fld rfl)) rfl rfl rfl ?_
    refine LL.val (R.load rfl rfl (I.ld1 rfl (by assumption))) rfl rfl rfl ?_
    refine LL.nilS ?_
    refine CC.no rfl ?_
    refine CC.skip ?_
    refine EE.thenN ?_
    refine CC.region ?_
    refine LL.val (R.move rfl rfl) rfl rfl rfl ?_
    refine LL.val (R.move rfl rfl) rfl rfl rfl ?_
    refine LL.val (R.move rfl rfl) rfl rfl rfl ?_
    refine LL.val (R.move rfl rfl) rfl rfl rfl ?_
    (refine LL.val (R.build' rfl rfl (zr _)) rfl rfl rfl ?_)
    refine LL.val (R.index rfl rfl rfl (I.ixS rfl (by omega))) rfl rfl rfl ?_
    refine LL.val (R.field rfl rfl (I.fld rfl)) rfl rfl rfl ?_
    (refine LL.storeFs k 16 c (c.1, c.2.1, none) rfl rfl rfl (by rw [lE_len]; rfl) (by show 0 + k * 25 + 16 = k * 25 + 16; omega) cEnc o2 hat (by rw [lE_len]; omega) (by rw [cE_cX c, hx]; exact cX_q.symm) (lE_one _) rfl rfl ?_; clear o2; intro Wb214 o2 grb212 zzb217)
    have zgrb212 := grb212.size
    replace q := q.grown grb212 q.size (by rintro k ⟨⟩; omega)
    refine LL.val (R.index rfl rfl rfl (I.ixS rfl (by omega))) rfl rfl rfl ?_
    refine LL.val (R.field rfl rfl (I.fld rfl)) rfl rfl rfl ?_
    (refine LL.storeF k 24 (c.1, c.2.1, none) (c.1, c.2.1, none) rfl rfl rfl rfl (by show 0 + k * 25 + 24 = k * 25 + 24; omega) cEnc o2 (hget _ _ (by omega)) (by omega) cX_has.symm rfl rfl rfl rfl ?_; clear o2; intro Wb256 o2 grb254 zzb259)
    have zgrb254 := grb254.size
    replace q := q.grown grb254 q.size (by rintro k ⟨⟩; omega)
    refine LL.nil ?_
    refine EE.inN ?_
    refine EE.thenN ?_
    refine CC.region ?_
    refine LL.val (R.move rfl rfl) rfl rfl rfl ?_
    refine LL.val (R.addNc rfl rfl rfl rfl (by omega)) rfl rfl rfl ?_
    refine LL.val (R.assign rfl rfl) rfl rfl rfl ?_
    refine LL.nil ?_
    exact EE.round (k + 1) ⟨rfl, rfl, trivial⟩ ⟨by show k + 1 ≤ N; omega, q, by omega, by rw [← mix_set hc, e, ← hsetl (c.1, c.2.1, none) (c.1, c.2.1, none), List.set_set]; exact o2⟩ (by show N - (k + 1) < N - k; omega)
  | some x =>
    rw [hx] at ch cq
    have e : feC c = (c.1, x, none) := by unfold feC; rw [hx]; rfl
    refine CC.seq ?_
    refine CC.seq ?_
    refine CC.region ?_
    refine LL.val (R.move rfl rfl) rfl rfl rfl ?_
    refine LL.val (R.move rfl rfl) rfl rfl rfl ?_
    refine LL.val (R.len rfl rfl rfl rfl) rfl rfl rfl ?_
    refine LL.val (R.ltT rfl rfl rfl (by omega)) rfl rfl rfl ?_
    refine LL.nilS ?_
    refine CC.yes rfl ?_
    refine CC.skip ?_
    refine EE.thenN ?_
    refine CC.seq ?_
    refine CC.block ?_
    refine CC.seq ?_
    refine CC.seq ?_
    refine CC.region ?_
    refine LL.val (R.move rfl rfl) rfl rfl rfl ?_
    refine LL.val (R.move rfl rfl) rfl rfl rfl ?_
    refine LL.val (R.index rfl rfl rfl (I.ixS rfl (by omega))) rfl rfl rfl ?_
    refine LL.val (R.field rfl rfl (I.fld rfl)) rfl rfl rfl ?_
    refine LL.val (R.load rfl rfl (I.ld1 rfl (by assumption))) rfl rfl rfl ?_
    refine LL.nilS ?_
    refine CC.yes rfl ?_
    refine CC.region ?_
    refine LL.val (R.move rfl rfl) rfl rfl rfl ?_
    refine LL.val (R.move rfl rfl) rfl rfl rfl ?_
    refine LL.val (R.move rfl rfl) rfl rfl rfl ?_
    refine LL.val (R.move rfl rfl) rfl rfl rfl ?_
    refine LL.val (R.index rfl rfl rfl (I.ixS rfl (by omega))) rfl rfl rfl ?_
    refine LL.val (R.field rfl rfl (I.fld rfl)) rfl rfl rfl ?_
    refine LL.val (R.load rfl rfl (I.ldM (by assumption) rfl rfl)) rfl rfl rfl ?_
    refine LL.val (R.index rfl rfl rfl (I.ixS rfl (by omega))) rfl rfl rfl ?_
    refine LL.val (R.field rfl rfl (I.fld rfl)) rfl rfl rfl ?_
    (refine LL.storeFs k 8 c (c.1, x, some x) rfl rfl rfl (by rw [lE_len]; rfl) (by show 0 + k * 25 + 8 = k * 25 + 8; omega) cEnc o2 hat (by rw [lE_len]; omega) (by rw [cE_cX c, hx]; exact cX_l.symm) (lE_one _) rfl rfl ?_; clear o2 ch cq m1; intro Wc382 o2 grc380 zzc385)
    have zgrc380 := grc380.size
    replace q := q.grown grc380 q.size (by rintro k ⟨⟩; omega)
    refine LL.nilS ?_
    refine CC.region ?_
    refine LL.val (R.move rfl rfl) rfl rfl rfl ?_
    refine LL.val (R.move rfl rfl) rfl rfl rfl ?_
    refine LL.val (R.move rfl rfl) rfl rfl rfl ?_
    refine LL.val (R.move rfl rfl) rfl rfl rfl ?_
    (refine LL.val (R.build' rfl rfl (zr _)) rfl rfl rfl ?_)
    refine LL.val (R.index rfl rfl rfl (I.ixS rfl (by omega))) rfl rfl rfl ?_
    refine LL.val (R.field rfl rfl (I.fld rfl)) rfl rfl rfl ?_
    (refine LL.storeFs k 16 (c.1, x, some x) (c.1, x, some zL) rfl rfl rfl (by rw [lE_len]; rfl) (by show 0 + k * 25 + 16 = k * 25 + 16; omega) cEnc o2 (hget _ _ (by omega)) (by rw [lE_len]; omega) cX_q.symm (lE_one _) rfl rfl ?_; clear o2; intro Wc522 o2 grc520 zzc525)
    have zgrc520 := grc520.size
    replace q := q.grown grc520 q.size (by rintro k ⟨⟩; omega)
    refine LL.val (R.index rfl rfl rfl (I.ixS rfl (by omega))) rfl rfl rfl ?_
    refine LL.val (R.field rfl rfl (I.fld rfl)) rfl rfl rfl ?_
    (refine LL.storeF k 24 (c.1, x, some zL) (c.1, x, none) rfl rfl rfl rfl (by show 0 + k * 25 + 24 = k * 25 + 24; omega) cEnc o2 (hget _ _ (by rw [List.length_set]; omega)) (by omega) cX_has.symm rfl rfl rfl rfl ?_; clear o2; intro Wc585 o2 grc583 zzc588)
    have zgrc583 := grc583.size
    replace q := q.grown grc583 q.size (by rintro k ⟨⟩; omega)
    refine LL.nil ?_
    refine EE.inN ?_
    refine EE.thenN ?_
    refine CC.region ?_
    refine LL.val (R.move rfl rfl) rfl rfl rfl ?_
    refine LL.val (R.addNc rfl rfl rfl rfl (by omega)) rfl rfl rfl ?_
    refine LL.val (R.assign rfl rfl) rfl rfl rfl ?_
    refine LL.nil ?_
    exact EE.round (k + 1) ⟨rfl, rfl, trivial⟩ ⟨by show k + 1 ≤ N; omega, q, by omega, by rw [← mix_set hc, e, ← hsetl (c.1, x, some x) (c.1, x, some zL)]; exact o2⟩ (by show N - (k + 1) < N - k; omega)
theorem LL.storeW {P : Program} {w : World} {o : Oper} {n : Nat} {D : List Deferred} {M : Slots} {r : Option Nat} {ops : Array Oper} {Q : Exit → Act → World → Prop} {rest : List Oper} {x y : Operand} {t g off e : Nat} {k : IntKind} {l : List Nat} (i v : Nat) (ho : o.op = .store t x y) (hx : evM M x = some (.pointer (some ⟨g, off, none⟩))) (hoff : off = i) (hy : evM M y = some (.int k (v : Int))) (hz : szB P t = some 1) (hr : RowL w g e (ints k l)) (hi : i < l.length) (hd : o.dst = none) (hg : wantB ops M o.guard = some true)
    (kk : ∀ w', RowL w' g e (ints k (l.set i v)) → w.grownBy w' (some g) → w'.heap.size = w.heap.size → LL r P ops Q n D M rest w') : LL r P ops Q n D M (o :: rest) w := by
  subst hoff
  refine LL.store ho hx hy hz hr (by rw [List.length_map]; exact hi) rfl rfl hd hg ?_
  intro w' r' g' z'
  refine kk w' ?_ g' z'
  rw [show ints k (l.set off v) = (ints k l).set off (.int k (v : Int)) from List.map_set ..]
  exact r'
/-- The first i words, and noughts. -/
def tzS (ws : List Nat) (L i : Nat) : List Nat := ws.take i ++ List.replicate (L - i) 0
theorem tzS_set {ws : List Nat} {L i v : Nat} (hl : ws.length = L) (hv : ws[i]? = some v) : (tzS ws L i).set i v = tzS ws L (i + 1) := by
  have hi := (List.getElem?_eq_some_iff.1 hv).1
  unfold tzS
  have ht : (ws.take i).length = i := by rw [List.length_take]; omega
  rw [List.set_append_right _ _ (by omega), ht, Nat.sub_self, show L - i = (L - (i + 1)) + 1 by omega, List.replicate_succ, List.set_cons_zero, List.take_add_one, hv]
  simp
theorem tzS_len {ws : List Nat} {L i : Nat} (hl : ws.length = L) (hi : i ≤ L) : (tzS ws L i).length = L := by
  unfold tzS
  rw [List.length_append, List.length_take, List.length_replicate]
  omega
theorem wdS_get (pr : Cl → Ln) : ∀ (s : List Cl) (i j : Nat), j < 8 → (wdS pr s)[i * 8 + j]? = (s[i]?).bind fun c => (pr c).1[j]?
  | [], i, j, _ => by simp [wdS]
  | c :: s, 0, j, hj => by
    unfold wdS
    rw [List.flatMap_cons, List.getElem?_append_left (by rw [(pr c).2]; omega), Nat.zero_mul, Nat.zero_add]
    rfl
  | c :: s, i + 1, j, hj => by
    have := wdS_get pr s i j hj
    unfold wdS at *
    rw [List.flatMap_cons, List.getElem?_append_right (by rw [(pr c).2]; omega), (pr c).2, show (i + 1) * 8 + j - 8 = i * 8 + j by omega, this]
    rfl
set_option maxRecDepth 100000
set_option maxHeartbeats 8000000
theorem dwords_any (pr : Cl → Ln) (lb : Bool) (hpr : (lb = false ∧ pr = fun c => c.1) ∨ (lb = true ∧ pr = fun c => c.2.1)) (s : List Cl) (g N cap : Nat) (w : World) (hv : ReadsT cE 25 w (.slice (some ⟨g, 0, none⟩) N cap) s) (hl : s.length = N) (hN : N ≤ 16384) : Calls Try.prog 38 #[.slice (some ⟨g, 0, none⟩) N cap, .bool lb] w fun e w' => ∃ v, e = .returned v ∧ ReadsT uE 1 w' v (wdS pr s) ∧ Below w.heap.size w w' := by
  have q := Below.refl w.heap.size w
  have hvF : ∀ W, Below w.heap.size w W → ReadsT cE 25 W (.slice (some ⟨g, 0, none⟩) N cap) s := fun W b => hv.up b
  clear hv
  have hwl := wdS_len pr s
  refine X.fn Try.func38 rfl (n := 43) rfl rfl ?_
  refine CC.seq ?_
  refine CC.region ?_
  refine LL.val (R.assign rfl rfl) rfl rfl rfl ?_
  refine LL.nilS ?_
  refine CC.seq ?_
  refine CC.region ?_
  refine LL.val (R.move rfl rfl) rfl rfl rfl ?_
  refine LL.val (R.len rfl rfl rfl rfl) rfl rfl rfl ?_
  refine LL.val (R.mulcN rfl rfl rfl rfl (by omega)) rfl rfl rfl ?_
  (refine LL.make (l := 8 * N) (m := 8 * N) ElU1 rfl rfl rfl (Nat.le_refl _) (by omega) (by omega) rfl rfl ?_; intro W32 g1 eg1 r1 zg1 b29)
  have zb29 := b29.size
  replace q := q.trans (b29.mono q.size)
  refine LL.val (R.assign rfl rfl) rfl rfl rfl ?_
  refine LL.nilS ?_
  refine CC.seq ?_
  refine CC.seq ?_
  refine CC.region ?_
  refine LL.val (R.assign rfl rfl) rfl rfl rfl ?_
  refine LL.nilS ?_
  refine CC.block ?_
  have hst : List.replicate (8 * N) (Value.int .u64 0) = ints .u64 (tzS (wdS pr s) (8 * N) 0) := by
    unfold tzS ints
    rw [List.take_zero, List.nil_append, List.map_replicate]
    rfl
  rw [hst] at r1
  have yq := q.size
  refine CC.loop (α := Nat) (fun k => [(0, .slice (some ⟨g, 0, none⟩) N cap), (1, .bool lb), (5, .slice (some ⟨g1, 0, none⟩) (8 * N) (8 * N)), (6, .int .i64 (k : Int))]) (fun k W => k ≤ 8 * N ∧ Below w.heap.size w W ∧ RowL W g1 37 (ints .u64 (tzS (wdS pr s) (8 * N) k))) (fun k => 8 * N - k) 0 ⟨rfl, rfl, rfl, rfl, trivial⟩ ⟨Nat.zero_le _, q, r1⟩ ?_
  clear q r1 hst
  rintro k W ⟨hk, q, r1⟩
  show CC none Try.prog _ 43 [] (sl [(0, .slice (some ⟨g, 0, none⟩) N cap), (1, .bool lb), (5, .slice (some ⟨g1, 0, none⟩) (8 * N) (8 * N)), (6, .int .i64 (k : Int))]) _ W
  have yw := q.size
  by_cases hlt : k < 8 * N
  case neg =>
    have he : tzS (wdS pr s) (8 * N) k = wdS pr s := by unfold tzS; rw [List.take_of_length_le (by omega), show 8 * N - k = 0 by omega]; simp
    rw [he] at r1
    have hrd := RowL.readsT uEnc (ts := wdS pr s) (by rw [flat_u]; exact r1) (8 * N) (by omega)
    rw [hwl, show s.length * 8 = 8 * N by omega] at hrd
    refine CC.seq ?_
    refine CC.seq ?_
    refine CC.region ?_
    refine LL.val (R.move rfl rfl) rfl rfl rfl ?_
    refine LL.val (R.move rfl rfl) rfl rfl rfl ?_
    refine LL.val (R.len rfl rfl rfl rfl) rfl rfl rfl ?_
    refine LL.val (R.ltF rfl rfl rfl (by omega)) rfl rfl rfl ?_
    refine LL.nilS ?_
    refine CC.no rfl ?_
    refine CC.exit ?_
    refine EE.thenX ?_
    refine EE.thenX ?_
    refine EE.inX ?_
    refine EE.thenN ?_
    refine CC.seq ?_
    refine CC.region ?_
    refine LL.val (R.move rfl rfl) rfl rfl rfl ?_
    refine LL.val (R.assign rfl rfl) rfl rfl rfl ?_
    refine LL.nilS ?_
    refine CC.ret ?_
    refine EE.ret _ rfl rfl ?_
    exact ⟨_, rfl, hrd, q⟩
  obtain ⟨c, hc⟩ : ∃ c, s[k / 8]? = some c := ⟨_, List.getElem?_eq_getElem (by omega)⟩
  obtain ⟨v0, hv0⟩ : ∃ v, c.1.1[k % 8]? = some v := ⟨_, List.getElem?_eq_getElem (by rw [c.1.2]; omega)⟩
  obtain ⟨v1, hv1⟩ : ∃ v, c.2.1.1[k % 8]? = some v := ⟨_, List.getElem?_eq_getElem (by rw [c.2.1.2]; omega)⟩
  have m1 : CellsN W ⟨g, 0 + k / 8 * 25, none⟩ 25 (cX c.1 c.2.1 (c.2.2.getD zL) c.2.2.isSome) := (hvF W q).elemN cEnc hc
  have c1 := m1.xn.w8 hv0
  have c2 := m1.xl.w8 hv1
  have lg : g < w.heap.size := ((hvF w (Below.refl _ _)).elemN cEnc hc).lt (by omega)
  have htl := tzS_len (ws := wdS pr s) (L := 8 * N) (i := k) (by omega) (by omega)
  have hget : (wdS pr s)[k]? = (pr c).1[k % 8]? := by
    have := wdS_get pr s (k / 8) (k % 8) (by omega)
    rw [show k / 8 * 8 + k % 8 = k by omega, hc] at this
    exact this
  clear m1
  rcases hpr with ⟨rfl, rfl⟩ | ⟨rfl, rfl⟩
  · have hs := tzS_set (L := 8 * N) (by omega) (hget.trans hv0)
    refine CC.seq ?_
    refine CC.seq ?_
    refine CC.region ?_
    refine LL.val (R.move rfl rfl) rfl rfl rfl ?_
    refine LL.val (R.move rfl rfl) rfl rfl rfl ?_
    refine LL.val (R.len rfl rfl rfl rfl) rfl rfl rfl ?_
    refine LL.val (R.ltT rfl rfl rfl (by omega)) rfl rfl rfl ?_
    refine LL.nilS ?_
    refine CC.yes rfl ?_
    refine CC.skip ?_
    refine EE.thenN ?_
    refine CC.seq ?_
    refine CC.block ?_
    refine CC.seq ?_
    refine CC.region ?_
    refine LL.val (R.move rfl rfl) rfl rfl rfl ?_
    refine LL.val (R.move rfl rfl) rfl rfl rfl ?_
    refine LL.val (R.move rfl rfl) rfl rfl rfl ?_
    refine LL.val (R.move rfl rfl) rfl rfl rfl ?_
    refine LL.val (R.quoNc rfl rfl rfl rfl (by omega) (by omega)) rfl rfl rfl ?_
    refine LL.val (R.move rfl rfl) rfl rfl rfl ?_
    refine LL.val (R.remNc rfl rfl rfl rfl (by omega)) rfl rfl rfl ?_
    refine LL.val (R.index rfl rfl rfl (I.ixS rfl (by omega))) rfl rfl rfl ?_
    refine LL.val (R.field rfl rfl (I.fld rfl)) rfl rfl rfl ?_
    refine LL.val (R.index rfl rfl rfl (I.ixA1 rfl (by omega))) rfl rfl rfl ?_
    refine LL.val (R.load rfl rfl (I.ld1 rfl (by assumption))) rfl rfl rfl ?_
    refine LL.val (R.index rfl rfl rfl (I.ixS1 rfl (by omega))) rfl rfl rfl ?_
    (refine LL.storeW k v0 rfl rfl (Nat.zero_add _) rfl rfl r1 (by omega) rfl rfl ?_; clear r1; intro Wb116 r1 grb114 zzb119)
    have zgrb114 := grb114.size
    replace q := q.grown grb114 q.size (by rintro k ⟨⟩; omega)
    replace c1 := cell_gr c1 grb114 (by omega)
    replace c2 := cell_gr c2 grb114 (by omega)
    refine LL.nilS ?_
    refine CC.seq ?_
    refine CC.region ?_
    refine LL.val (R.move rfl rfl) rfl rfl rfl ?_
    refine LL.nilS ?_
    refine CC.no rfl ?_
    refine CC.skip ?_
    refine EE.inN ?_
    refine EE.thenN ?_
    refine CC.region ?_
    refine LL.val (R.move rfl rfl) rfl rfl rfl ?_
    refine LL.val (R.addNc rfl rfl rfl rfl (by omega)) rfl rfl rfl ?_
    refine LL.val (R.assign rfl rfl) rfl rfl rfl ?_
    refine LL.nil ?_
    exact EE.round (k + 1) ⟨rfl, rfl, rfl, rfl, trivial⟩ ⟨by show k + 1 ≤ 8 * N; omega, q, by rw [← hs]; exact r1⟩ (by show 8 * N - (k + 1) < 8 * N - k; omega)
  · have hs := tzS_set (L := 8 * N) (by omega) (hget.trans hv1)
    refine CC.seq ?_
    refine CC.seq ?_
    refine CC.region ?_
    refine LL.val (R.move rfl rfl) rfl rfl rfl ?_
    refine LL.val (R.move rfl rfl) rfl rfl rfl ?_
    refine LL.val (R.len rfl rfl rfl rfl) rfl rfl rfl ?_
    refine LL.val (R.ltT rfl rfl rfl (by omega)) rfl rfl rfl ?_
    refine LL.nilS ?_
    refine CC.yes rfl ?_
    refine CC.skip ?_
    refine EE.thenN ?_
    refine CC.seq ?_
    refine CC.block ?_
    refine CC.seq ?_
    refine CC.region ?_
    refine LL.val (R.move rfl rfl) rfl rfl rfl ?_
    refine LL.val (R.move rfl rfl) rfl rfl rfl ?_
    refine LL.val (R.move rfl rfl) rfl rfl rfl ?_
    refine LL.val (R.move rfl rfl) rfl rfl rfl ?_
    refine LL.val (R.quoNc rfl rfl rfl rfl (by omega) (by omega)) rfl rfl rfl ?_
    refine LL.val (R.move rfl rfl) rfl rfl rfl ?_
    refine LL.val (R.remNc rfl rfl rfl rfl (by omega)) rfl rfl rfl ?_
    refine LL.val (R.index rfl rfl rfl (I.ixS rfl (by omega))) rfl rfl rfl ?_
    refine LL.val (R.field rfl rfl (I.fld rfl)) rfl rfl rfl ?_
    refine LL.val (R.index rfl rfl rfl (I.ixA1 rfl (by omega))) rfl rfl rfl ?_
    refine LL.val (R.load rfl rfl (I.ld1 rfl (by assumption))) rfl rfl rfl ?_
    refine LL.val (R.index rfl rfl rfl (I.ixS1 rfl (by omega))) rfl rfl rfl ?_
    (refine LL.storeW k v0 rfl rfl (Nat.zero_add _) rfl rfl r1 (by omega) rfl rfl ?_; clear r1; intro Wc228 r2 grc226 zzc231)
    have zgrc226 := grc226.size
    replace q := q.grown grc226 q.size (by rintro k ⟨⟩; omega)
    replace c1 := cell_gr c1 grc226 (by omega)
    replace c2 := cell_gr c2 grc226 (by omega)
    refine LL.nilS ?_
    refine CC.seq ?_
    refine CC.region ?_
    refine LL.val (R.move rfl rfl) rfl rfl rfl ?_
    refine LL.nilS ?_
    refine CC.yes rfl ?_
    refine CC.region ?_
    refine LL.val (R.move rfl rfl) rfl rfl rfl ?_
    refine LL.val (R.move rfl rfl) rfl rfl rfl ?_
    refine LL.val (R.move rfl rfl) rfl rfl rfl ?_
    refine LL.val (R.move rfl rfl) rfl rfl rfl ?_
    refine LL.val (R.quoNc rfl rfl rfl rfl (by omega) (by omega)) rfl rfl rfl ?_
    refine LL.val (R.move rfl rfl) rfl rfl rfl ?_
    refine LL.val (R.remNc rfl rfl rfl rfl (by omega)) rfl rfl rfl ?_
    refine LL.val (R.index rfl rfl rfl (I.ixS rfl (by omega))) rfl rfl rfl ?_
    refine LL.val (R.field rfl rfl (I.fld rfl)) rfl rfl rfl ?_
    refine LL.val (R.index rfl rfl rfl (I.ixA1 rfl (by omega))) rfl rfl rfl ?_
    refine LL.val (R.load rfl rfl (I.ld1 rfl (by assumption))) rfl rfl rfl ?_
    refine LL.val (R.index rfl rfl rfl (I.ixS1 rfl (by omega))) rfl rfl rfl ?_
    (refine LL.storeW k v1 rfl rfl (Nat.zero_add _) rfl rfl r2 (by rw [List.length_set]; omega) rfl rfl ?_; clear r2; intro Wc424 r3 grc422 zzc427; rw [List.set_set] at r3)
    have zgrc422 := grc422.size
    replace q := q.grown grc422 q.size (by rintro k ⟨⟩; omega)
    replace c1 := cell_gr c1 grc422 (by omega)
    replace c2 := cell_gr c2 grc422 (by omega)
    refine LL.nil ?_
    refine EE.inN ?_
    refine EE.thenN ?_
    refine CC.region ?_
    refine LL.val (R.move rfl rfl) rfl rfl rfl ?_
    refine LL.val (R.addNc rfl rfl rfl rfl (by omega)) rfl rfl rfl ?_
    refine LL.val (R.assign rfl rfl) rfl rfl rfl ?_
    refine LL.nil ?_
    exact EE.round (k + 1) ⟨rfl, rfl, rfl, rfl, trivial⟩ ⟨by show k + 1 ≤ 8 * N; omega, q, by rw [← hs]; exact r3⟩ (by show 8 * N - (k + 1) < 8 * N - k; omega)
theorem dopen_any (s : List Cl) (g N cap : Nat) (w : World) (hv : ReadsT cE 25 w (.slice (some ⟨g, 0, none⟩) N cap) s) (hl : s.length = N) (hN : N ≤ 16384) : Calls Try.prog 30 #[.slice (some ⟨g, 0, none⟩) N cap] w fun e w' => ∃ v, e = .returned v ∧ OwnsT iE 1 w' w.heap.size 3 v (opS s) ∧ Below w.heap.size w w' := by
  have q := Below.refl w.heap.size w
  have hvF : ∀ W, Below w.heap.size w W → ReadsT cE 25 W (.slice (some ⟨g, 0, none⟩) N cap) s := fun W b => hv.up b
  clear hv
  refine X.fn Try.func30 rfl (n := 47) rfl rfl ?_
  refine CC.seq ?_
  refine CC.region ?_
  refine LL.val (R.assign rfl rfl) rfl rfl rfl ?_
  refine LL.nilS ?_
  refine CC.seq ?_
  refine CC.region ?_
  refine LL.val (R.assign rfl rfl) rfl rfl rfl ?_
  refine LL.nilS ?_
  refine CC.seq ?_
  refine CC.seq ?_
  refine CC.region ?_
  refine LL.val (R.assign rfl rfl) rfl rfl rfl ?_
  refine LL.nilS ?_
  refine CC.block ?_
  refine CC.loop (α := Nat × Value) (fun st => [(0, .slice (some ⟨g, 0, none⟩) N cap), (3, st.2), (4, .int .i64 (st.1 : Int))]) (fun st W => st.1 ≤ N ∧ Below w.heap.size w W ∧ OwnsT iE 1 W w.heap.size 3 st.2 (opF s st.1)) (fun st => N - st.1) (0, .slice none 0 0) ⟨rfl, rfl, rfl, trivial⟩ ⟨Nat.zero_le _, q, OwnsT.none _ _ _⟩ ?_
  clear q
  rintro ⟨k, v⟩ W ⟨hk, q, o⟩
  simp only at hk o
  show CC none Try.prog _ 47 [] (sl [(0, .slice (some ⟨g, 0, none⟩) N cap), (3, v), (4, .int .i64 (k : Int))]) _ W
  have yw := q.size
  by_cases hlt : k < N
  case neg =>
    obtain rfl : k = N := by omega
    have : opF s k = opS s := by unfold opS; rw [hl]
    rw [this] at o
    refine CC.seq ?_
    refine CC.seq ?_
    refine CC.region ?_
    refine LL.val (R.move rfl rfl) rfl rfl rfl ?_
    refine LL.val (R.move rfl rfl) rfl rfl rfl ?_
    refine LL.val (R.len rfl rfl rfl rfl) rfl rfl rfl ?_
    refine LL.val (R.ltF rfl rfl rfl (by omega)) rfl rfl rfl ?_
    refine LL.nilS ?_
    refine CC.no rfl ?_
    refine CC.exit ?_
    refine EE.thenX ?_
    refine EE.thenX ?_
    refine EE.inX ?_
    refine EE.thenN ?_
    refine CC.seq ?_
    refine CC.region ?_
    refine LL.val (R.move rfl rfl) rfl rfl rfl ?_
    refine LL.val (R.assign rfl rfl) rfl rfl rfl ?_
    refine LL.nilS ?_
    refine CC.ret ?_
    refine EE.ret _ rfl rfl ?_
    exact ⟨_, rfl, o, q⟩
  obtain ⟨c, hc⟩ : ∃ c, s[k]? = some c := ⟨_, List.getElem?_eq_getElem (by omega)⟩
  have m1 : CellsN W ⟨g, 0 + k * 25, none⟩ 25 (cX c.1 c.2.1 (c.2.2.getD zL) c.2.2.isSome) := (hvF W q).elemN cEnc hc
  have ca := m1.xn
  have cb := m1.xl
  have cq := m1.xq
  have ch := m1.xh
  have hln := opF_len (s := s) k
  clear m1
  by_cases ho : opC c
  case neg =>
    have hno := opF_no hc ho
    have h1 : c.1 = c.2.1 := Decidable.not_not.1 fun h => ho (.inl h)
    cases hx : c.2.2 with
    | none =>
      rw [hx] at ch cq
      refine CC.seq ?_
      refine CC.seq ?_
      refine CC.region ?_
      refine LL.val (R.move rfl rfl) rfl rfl rfl ?_
      refine LL.val (R.move rfl rfl) rfl rfl rfl ?_
      refine LL.val (R.len rfl rfl rfl rfl) rfl rfl rfl ?_
      refine LL.val (R.ltT rfl rfl rfl (by omega)) rfl rfl rfl ?_
      refine LL.nilS ?_
      refine CC.yes rfl ?_
      refine CC.skip ?_
      refine EE.thenN ?_
      refine CC.seq ?_
      refine CC.block ?_
      refine CC.seq ?_
      refine CC.quietB (by kernel_rfl) (by kernel_rfl) (fun Wb2 bb1 zb3 => ?_)
      replace q := q.trans (bb1.mono q.size)
      replace o := o.up bb1
      replace ca := ca.up bb1
      replace cb := cb.up bb1
      replace cq := cq.up bb1
      replace ch := cell_up ch bb1
      refine SS.val (R.move rfl rfl) rfl rfl ?_
      refine SS.val (R.move rfl rfl) rfl rfl ?_
      refine SS.val (R.index rfl rfl rfl (I.ixS rfl (by omega))) rfl rfl ?_
      refine SS.val (R.field rfl rfl (I.fld rfl)) rfl rfl ?_
      refine SS.val (R.load rfl rfl (I.ldM (by assumption) rfl rfl)) rfl rfl ?_
      refine SS.val (R.move rfl rfl) rfl rfl ?_
      refine SS.val (R.move rfl rfl) rfl rfl ?_
      refine SS.val (R.index rfl rfl rfl (I.ixS rfl (by omega))) rfl rfl ?_
      refine SS.val (R.field rfl rfl (I.fld rfl)) rfl rfl ?_
      refine SS.val (R.load rfl rfl (I.ldM (by assumption) rfl rfl)) rfl rfl ?_
      (refine SS.val (R.neLT rfl rfl rfl (by rfl) rfl (by kernel_rfl) h1) rfl rfl ?_)
      refine SS.val (R.move rfl rfl) rfl rfl ?_
      refine SS.val (R.move rfl rfl) rfl rfl ?_
      refine SS.val (R.move rfl rfl) rfl rfl ?_
      refine SS.val (R.index rfl rfl rfl (I.ixS rfl (by omega))) rfl rfl ?_
      refine SS.val (R.field rfl rfl (I.fld rfl)) rfl rfl ?_
      refine SS.val (R.load rfl rfl (I.ld1 rfl (by assumption))) rfl rfl ?_
      refine SS.val (R.move rfl rfl) rfl rfl ?_
      refine SS.skip rfl rfl ?_
      refine SS.skip rfl rfl ?_
      refine SS.skip rfl rfl ?_
      refine SS.skip rfl rfl ?_
      refine SS.skip rfl rfl ?_
      refine SS.skip rfl rfl ?_
      refine SS.skip rfl rfl ?_
      refine SS.skip rfl rfl ?_
      refine SS.skip rfl rfl ?_
      refine SS.skip rfl rfl ?_
      refine SS.skip rfl rfl ?_
      refine SS.val (R.pick rfl rfl rfl) rfl rfl ?_
      refine SS.val (R.pick rfl rfl rfl) rfl rfl ?_
      refine SS.nilQ ?_
      refine EE.thenN ?_
      refine CC.no rfl ?_
      refine CC.skip ?_
      refine EE.inN ?_
      refine EE.thenN ?_
      refine CC.region ?_
      refine LL.val (R.move rfl rfl) rfl rfl rfl ?_
      refine LL.val (R.addNc rfl rfl rfl rfl (by omega)) rfl rfl rfl ?_
      refine LL.val (R.assign rfl rfl) rfl rfl rfl ?_
      refine LL.nil ?_
      exact EE.round (k + 1, v) ⟨rfl, rfl, rfl, trivial⟩ ⟨by show k + 1 ≤ N; omega, q, by show OwnsT iE 1 _ _ _ v (opF s (k + 1)); rw [hno]; exact o⟩ (by show N - (k + 1) < N - k; omega)
    | some x =>
      rw [hx] at ch cq
      have h2 : x = c.2.1 := Decidable.not_not.1 fun h => ho (.inr ⟨x, hx, h⟩)
      refine CC.seq ?_
      refine CC.seq ?_
      refine CC.region ?_
      refine LL.val (R.move rfl rfl) rfl rfl rfl ?_
      refine LL.val (R.move rfl rfl) rfl rfl rfl ?_
      refine LL.val (R.len rfl rfl rfl rfl) rfl rfl rfl ?_
      refine LL.val (R.ltT rfl rfl rfl (by omega)) rfl rfl rfl ?_
      refine LL.nilS ?_
      refine CC.yes rfl ?_
      refine CC.skip ?_
      refine EE.thenN ?_
      refine CC.seq ?_
      refine CC.block ?_
      refine CC.seq ?_
      refine CC.quietB (by kernel_rfl) (by kernel_rfl) (fun Wc2 bc1 zc3 => ?_)
      replace q := q.trans (bc1.mono q.size)
      replace o := o.up bc1
      replace ca := ca.up bc1
      replace cb := cb.up bc1
      replace cq := cq.up bc1
      replace ch := cell_up ch bc1
      refine SS.val (R.move rfl rfl) rfl rfl ?_
      refine SS.val (R.move rfl rfl) rfl rfl ?_
      refine SS.val (R.index rfl rfl rfl (I.ixS rfl (by omega))) rfl rfl ?_
      refine SS.val (R.field rfl rfl (I.fld rfl)) rfl rfl ?_
      refine SS.val (R.load rfl rfl (I.ldM (by assumption) rfl rfl)) rfl rfl ?_
      refine SS.val (R.move rfl rfl) rfl rfl ?_
      refine SS.val (R.move rfl rfl) rfl rfl ?_
      refine SS.val (R.index rfl rfl rfl (I.ixS rfl (by omega))) rfl rfl ?_
      refine SS.val (R.field rfl rfl (I.fld rfl)) rfl rfl ?_
      refine SS.val (R.load rfl rfl (I.ldM (by assumption) rfl rfl)) rfl rfl ?_
      (refine SS.val (R.neLT rfl rfl rfl (by rfl) rfl (by kernel_rfl) h1) rfl rfl ?_)
      refine SS.val (R.move rfl rfl) rfl rfl ?_
      refine SS.val (R.move rfl rfl) rfl rfl ?_
      refine SS.val (R.move rfl rfl) rfl rfl ?_
      refine SS.val (R.index rfl rfl rfl (I.ixS rfl (by omega))) rfl rfl ?_
      refine SS.val (R.field rfl rfl (I.fld rfl)) rfl rfl ?_
      refine SS.val (R.load rfl rfl (I.ld1 rfl (by assumption))) rfl rfl ?_
      refine SS.val (R.move rfl rfl) rfl rfl ?_
      refine SS.val (R.move rfl rfl) rfl rfl ?_
      refine SS.val (R.move rfl rfl) rfl rfl ?_
      refine SS.val (R.index rfl rfl rfl (I.ixS rfl (by omega))) rfl rfl ?_
      refine SS.val (R.field rfl rfl (I.fld rfl)) rfl rfl ?_
      refine SS.val (R.load rfl rfl (I.ldM (by assumption) rfl rfl)) rfl rfl ?_
      refine SS.val (R.move rfl rfl) rfl rfl ?_
      refine SS.val (R.move rfl rfl) rfl rfl ?_
      refine SS.val (R.index rfl rfl rfl (I.ixS rfl (by omega))) rfl rfl ?_
      refine SS.val (R.field rfl rfl (I.fld rfl)) rfl rfl ?_
      refine SS.val (R.load rfl rfl (I.ldM (by assumption) rfl rfl)) rfl rfl ?_
      (refine SS.val (R.neLT rfl rfl rfl (by rfl) rfl (by kernel_rfl) h2) rfl rfl ?_)
      refine SS.val (R.pick rfl rfl rfl) rfl rfl ?_
      refine SS.val (R.pick rfl rfl rfl) rfl rfl ?_
      refine SS.nilQ ?_
      refine EE.thenN ?_
      refine CC.no rfl ?_
      refine CC.skip ?_
      refine EE.inN ?_
      refine EE.thenN ?_
      refine CC.region ?_
      refine LL.val (R.move rfl rfl) rfl rfl rfl ?_
      refine LL.val (R.addNc rfl rfl rfl rfl (by omega)) rfl rfl rfl ?_
      refine LL.val (R.assign rfl rfl) rfl rfl rfl ?_
      refine LL.nil ?_
      exact EE.round (k + 1, v) ⟨rfl, rfl, rfl, trivial⟩ ⟨by show k + 1 ≤ N; omega, q, by show OwnsT iE 1 _ _ _ v (opF s (k + 1)); rw [hno]; exact o⟩ (by show N - (k + 1) < N - k; omega)
  have hys := opF_yes hc ho
  by_cases h1 : c.1 = c.2.1
  · obtain ⟨x, hx, h2⟩ : ∃ x, c.2.2 = some x ∧ x ≠ c.2.1 := ho.elim (fun h => absurd h1 h) id
    rw [hx] at ch cq
    refine CC.seq ?_
    refine CC.seq ?_
    refine CC.region ?_
    refine LL.val (R.move rfl rfl) rfl rfl rfl ?_
    refine LL.val (R.move rfl rfl) rfl rfl rfl ?_
    refine LL.val (R.len rfl rfl rfl rfl) rfl rfl rfl ?_
    refine LL.val (R.ltT rfl rfl rfl (by omega)) rfl rfl rfl ?_
    refine LL.nilS ?_
    refine CC.yes rfl ?_
    refine CC.skip ?_
    refine EE.thenN ?_
    refine CC.seq ?_
    refine CC.block ?_
    refine CC.seq ?_
    refine CC.quietB (by kernel_rfl) (by kernel_rfl) (fun Wd2 bd1 zd3 => ?_)
    replace q := q.trans (bd1.mono q.size)
    replace o := o.up bd1
    replace ca := ca.up bd1
    replace cb := cb.up bd1
    replace cq := cq.up bd1
    replace ch := cell_up ch bd1
    refine SS.val (R.move rfl rfl) rfl rfl ?_
    refine SS.val (R.move rfl rfl) rfl rfl ?_
    refine SS.val (R.index rfl rfl rfl (I.ixS rfl (by omega))) rfl rfl ?_
    refine SS.val (R.field rfl rfl (I.fld rfl)) rfl rfl ?_
    refine SS.val (R.load rfl rfl (I.ldM (by assumption) rfl rfl)) rfl rfl ?_
    refine SS.val (R.move rfl rfl) rfl rfl ?_
    refine SS.val (R.move rfl rfl) rfl rfl ?_
    refine SS.val (R.index rfl rfl rfl (I.ixS rfl (by omega))) rfl rfl ?_
    refine SS.val (R.field rfl rfl (I.fld rfl)) rfl rfl ?_
    refine SS.val (R.load rfl rfl (I.ldM (by assumption) rfl rfl)) rfl rfl ?_
    (refine SS.val (R.neLT rfl rfl rfl (by rfl) rfl (by kernel_rfl) h1) rfl rfl ?_)
    refine SS.val (R.move rfl rfl) rfl rfl ?_
    refine SS.val (R.move rfl rfl) rfl rfl ?_
    refine SS.val (R.move rfl rfl) rfl rfl ?_
    refine SS.val (R.index rfl rfl rfl (I.ixS rfl (by omega))) rfl rfl ?_
    refine SS.val (R.field rfl rfl (I.fld rfl)) rfl rfl ?_
    refine SS.val (R.load rfl rfl (I.ld1 rfl (by assumption))) rfl rfl ?_
    refine SS.val (R.move rfl rfl) rfl rfl ?_
    refine SS.val (R.move rfl rfl) rfl rfl ?_
    refine SS.val (R.move rfl rfl) rfl rfl ?_
    refine SS.val (R.index rfl rfl rfl (I.ixS rfl (by omega))) rfl rfl ?_
    refine SS.val (R.field rfl rfl (I.fld rfl)) rfl rfl ?_
    refine SS.val (R.load rfl rfl (I.ldM (by assumption) rfl rfl)) rfl rfl ?_
    refine SS.val (R.move rfl rfl) rfl rfl ?_
    refine SS.val (R.move rfl rfl) rfl rfl ?_
    refine SS.val (R.index rfl rfl rfl (I.ixS rfl (by omega))) rfl rfl ?_
    refine SS.val (R.field rfl rfl (I.fld rfl)) rfl rfl ?_
    refine SS.val (R.load rfl rfl (I.ldM (by assumption) rfl rfl)) rfl rfl ?_
    (refine SS.val (R.neLF rfl rfl rfl (by rfl) rfl (by kernel_rfl) h2) rfl rfl ?_)
    refine SS.val (R.pick rfl rfl rfl) rfl rfl ?_
    refine SS.val (R.pick rfl rfl rfl) rfl rfl ?_
    refine SS.nilQ ?_
    refine EE.thenN ?_
    refine CC.yes rfl ?_
    refine CC.region ?_
    refine LL.val (R.move rfl rfl) rfl rfl rfl ?_
    refine LL.val (R.move rfl rfl) rfl rfl rfl ?_
    refine LL.lit (e := 3) [Value.int IntKind.i64 ↑k] 1 rfl rfl (fun _ => by kernel_rfl) rfl rfl ?_
    intro Wd5 gd6 egd6 rd7 zd8 bd4
    replace bd1 := bd1.trans (bd4.mono bd1.size)
    replace q := q.trans (bd4.mono q.size)
    replace o := o.up bd4
    replace ca := ca.up bd4
    replace cb := cb.up bd4
    replace cq := cq.up bd4
    replace ch := cell_up ch bd4
    (refine LL.appendT2 rfl rfl iEnc ElIn o (us := [k]) (RowL.readsT iEnc (ts := [k]) (by assumption) 1 (Nat.le_refl _)) (by simp only [List.length_cons, List.length_nil, maxLen]; omega) (by simp only [List.length_cons, List.length_nil]; omega) (by omega) rfl rfl ?_; intro v' Wc o' gr hv'; have og := own_ge o; replace q := q.grown gr q.size (fun j ej => by have := og j ej; omega); clear o ca cb cq ch)
    refine LL.val (R.assign rfl rfl) rfl rfl rfl ?_
    refine LL.nil ?_
    refine EE.inN ?_
    refine EE.thenN ?_
    refine CC.region ?_
    refine LL.val (R.move rfl rfl) rfl rfl rfl ?_
    refine LL.val (R.addNc rfl rfl rfl rfl (by omega)) rfl rfl rfl ?_
    refine LL.val (R.assign rfl rfl) rfl rfl rfl ?_
    refine LL.nil ?_
    exact EE.round (k + 1, v') ⟨rfl, rfl, rfl, trivial⟩ ⟨by show k + 1 ≤ N; omega, q, by show OwnsT iE 1 _ _ _ v' (opF s (k + 1)); rw [hys]; exact o'⟩ (by show N - (k + 1) < N - k; omega)
  · cases hx : c.2.2 with
    | none =>
      rw [hx] at ch cq
      refine CC.seq ?_
      refine CC.seq ?_
      refine CC.region ?_
      refine LL.val (R.move rfl rfl) rfl rfl rfl ?_
      refine LL.val (R.move rfl rfl) rfl rfl rfl ?_
      refine LL.val (R.len rfl rfl rfl rfl) rfl rfl rfl ?_
      refine LL.val (R.ltT rfl rfl rfl (by omega)) rfl rfl rfl ?_
      refine LL.nilS ?_
      refine CC.yes rfl ?_
      refine CC.skip ?_
      refine EE.thenN ?_
      refine CC.seq ?_
      refine CC.block ?_
      refine CC.seq ?_
      refine CC.quietB (by kernel_rfl) (by kernel_rfl) (fun We2 be1 ze3 => ?_)
      replace q := q.trans (be1.mono q.size)
      replace o := o.up be1
      replace ca := ca.up be1
      replace cb := cb.up be1
      replace cq := cq.up be1
      replace ch := cell_up ch be1
      refine SS.val (R.move rfl rfl) rfl rfl ?_
      refine SS.val (R.move rfl rfl) rfl rfl ?_
      refine SS.val (R.index rfl rfl rfl (I.ixS rfl (by omega))) rfl rfl ?_
      refine SS.val (R.field rfl rfl (I.fld rfl)) rfl rfl ?_
      refine SS.val (R.load rfl rfl (I.ldM (by assumption) rfl rfl)) rfl rfl ?_
      refine SS.val (R.move rfl rfl) rfl rfl ?_
      refine SS.val (R.move rfl rfl) rfl rfl ?_
      refine SS.val (R.index rfl rfl rfl (I.ixS rfl (by omega))) rfl rfl ?_
      refine SS.val (R.field rfl rfl (I.fld rfl)) rfl rfl ?_
      refine SS.val (R.load rfl rfl (I.ldM (by assumption) rfl rfl)) rfl rfl ?_
      (refine SS.val (R.neLF rfl rfl rfl (by rfl) rfl (by kernel_rfl) h1) rfl rfl ?_)
      refine SS.val (R.move rfl rfl) rfl rfl ?_
      refine SS.skip rfl rfl ?_
      refine SS.skip rfl rfl ?_
      refine SS.skip rfl rfl ?_
      refine SS.skip rfl rfl ?_
      refine SS.skip rfl rfl ?_
      refine SS.skip rfl rfl ?_
      refine SS.skip rfl rfl ?_
      refine SS.skip rfl rfl ?_
      refine SS.skip rfl rfl ?_
      refine SS.skip rfl rfl ?_
      refine SS.skip rfl rfl ?_
      refine SS.skip rfl rfl ?_
      refine SS.skip rfl rfl ?_
      refine SS.skip rfl rfl ?_
      refine SS.skip rfl rfl ?_
      refine SS.skip rfl rfl ?_
      refine SS.skip rfl rfl ?_
      refine SS.skip rfl rfl ?_
      refine SS.val (R.pick rfl rfl rfl) rfl rfl ?_
      refine SS.nilQ ?_
      refine EE.thenN ?_
      refine CC.yes rfl ?_
      refine CC.region ?_
      refine LL.val (R.move rfl rfl) rfl rfl rfl ?_
      refine LL.val (R.move rfl rfl) rfl rfl rfl ?_
      refine LL.lit (e := 3) [Value.int IntKind.i64 ↑k] 1 rfl rfl (fun _ => by kernel_rfl) rfl rfl ?_
      intro We5 ge6 ege6 re7 ze8 be4
      replace be1 := be1.trans (be4.mono be1.size)
      replace q := q.trans (be4.mono q.size)
      replace o := o.up be4
      replace ca := ca.up be4
      replace cb := cb.up be4
      replace cq := cq.up be4
      replace ch := cell_up ch be4
      (refine LL.appendT2 rfl rfl iEnc ElIn o (us := [k]) (RowL.readsT iEnc (ts := [k]) (by assumption) 1 (Nat.le_refl _)) (by simp only [List.length_cons, List.length_nil, maxLen]; omega) (by simp only [List.length_cons, List.length_nil]; omega) (by omega) rfl rfl ?_; intro v' Wc o' gr hv'; have og := own_ge o; replace q := q.grown gr q.size (fun j ej => by have := og j ej; omega); clear o ca cb cq ch)
      refine LL.val (R.assign rfl rfl) rfl rfl rfl ?_
      refine LL.nil ?_
      refine EE.inN ?_
      refine EE.thenN ?_
      refine CC.region ?_
      refine LL.val (R.move rfl rfl) rfl rfl rfl ?_
      refine LL.val (R.addNc rfl rfl rfl rfl (by omega)) rfl rfl rfl ?_
      refine LL.val (R.assign rfl rfl) rfl rfl rfl ?_
      refine LL.nil ?_
      exact EE.round (k + 1, v') ⟨rfl, rfl, rfl, trivial⟩ ⟨by show k + 1 ≤ N; omega, q, by show OwnsT iE 1 _ _ _ v' (opF s (k + 1)); rw [hys]; exact o'⟩ (by show N - (k + 1) < N - k; omega)
    | some x =>
      rw [hx] at ch cq
      refine CC.seq ?_
      refine CC.seq ?_
      refine CC.region ?_
      refine LL.val (R.move rfl rfl) rfl rfl rfl ?_
      refine LL.val (R.move rfl rfl) rfl rfl rfl ?_
      refine LL.val (R.len rfl rfl rfl rfl) rfl rfl rfl ?_
      refine LL.val (R.ltT rfl rfl rfl (by omega)) rfl rfl rfl ?_
      refine LL.nilS ?_
      refine CC.yes rfl ?_
      refine CC.skip ?_
      refine EE.thenN ?_
      refine CC.seq ?_
      refine CC.block ?_
      refine CC.seq ?_
      refine CC.quietB (by kernel_rfl) (by kernel_rfl) (fun Wf2 bf1 zf3 => ?_)
      replace q := q.trans (bf1.mono q.size)
      replace o := o.up bf1
      replace ca := ca.up bf1
      replace cb := cb.up bf1
      replace cq := cq.up bf1
      replace ch := cell_up ch bf1
      refine SS.val (R.move rfl rfl) rfl rfl ?_
      refine SS.val (R.move rfl rfl) rfl rfl ?_
      refine SS.val (R.index rfl rfl rfl (I.ixS rfl (by omega))) rfl rfl ?_
      refine SS.val (R.field rfl rfl (I.fld rfl)) rfl rfl ?_
      refine SS.val (R.load rfl rfl (I.ldM (by assumption) rfl rfl)) rfl rfl ?_
      refine SS.val (R.move rfl rfl) rfl rfl ?_
      refine SS.val (R.move rfl rfl) rfl rfl ?_
      refine SS.val (R.index rfl rfl rfl (I.ixS rfl (by omega))) rfl rfl ?_
      refine SS.val (R.field rfl rfl (I.fld rfl)) rfl rfl ?_
      refine SS.val (R.load rfl rfl (I.ldM (by assumption) rfl rfl)) rfl rfl ?_
      (refine SS.val (R.neLF rfl rfl rfl (by rfl) rfl (by kernel_rfl) h1) rfl rfl ?_)
      refine SS.val (R.move rfl rfl) rfl rfl ?_
      refine SS.skip rfl rfl ?_
      refine SS.skip rfl rfl ?_
      refine SS.skip rfl rfl ?_
      refine SS.skip rfl rfl ?_
      refine SS.skip rfl rfl ?_
      refine SS.skip rfl rfl ?_
      refine SS.skip rfl rfl ?_
      refine SS.skip rfl rfl ?_
      refine SS.skip rfl rfl ?_
      refine SS.skip rfl rfl ?_
      refine SS.skip rfl rfl ?_
      refine SS.skip rfl rfl ?_
      refine SS.skip rfl rfl ?_
      refine SS.skip rfl rfl ?_
      refine SS.skip rfl rfl ?_
      refine SS.skip rfl rfl ?_
      refine SS.skip rfl rfl ?_
      refine SS.skip rfl rfl ?_
      refine SS.val (R.pick rfl rfl rfl) rfl rfl ?_
      refine SS.nilQ ?_
      refine EE.thenN ?_
      refine CC.yes rfl ?_
      refine CC.region ?_
      refine LL.val (R.move rfl rfl) rfl rfl rfl ?_
      refine LL.val (R.move rfl rfl) rfl rfl rfl ?_
      refine LL.lit (e := 3) [Value.int IntKind.i64 ↑k] 1 rfl rfl (fun _ => by kernel_rfl) rfl rfl ?_
      intro Wf5 gf6 egf6 rf7 zf8 bf4
      replace bf1 := bf1.trans (bf4.mono bf1.size)
      replace q := q.trans (bf4.mono q.size)
      replace o := o.up bf4
      replace ca := ca.up bf4
      replace cb := cb.up bf4
      replace cq := cq.up bf4
      replace ch := cell_up ch bf4
      (refine LL.appendT2 rfl rfl iEnc ElIn o (us := [k]) (RowL.readsT iEnc (ts := [k]) (by assumption) 1 (Nat.le_refl _)) (by simp only [List.length_cons, List.length_nil, maxLen]; omega) (by simp only [List.length_cons, List.length_nil]; omega) (by omega) rfl rfl ?_; intro v' Wc o' gr hv'; have og := own_ge o; replace q := q.grown gr q.size (fun j ej => by have := og j ej; omega); clear o ca cb cq ch)
      refine LL.val (R.assign rfl rfl) rfl rfl rfl ?_
      refine LL.nil ?_
      refine EE.inN ?_
      refine EE.thenN ?_
      refine CC.region ?_
      refine LL.val (R.move rfl rfl) rfl rfl rfl ?_
      refine LL.val (R.addNc rfl rfl rfl rfl (by omega)) rfl rfl rfl ?_
      refine LL.val (R.assign rfl rfl) rfl rfl rfl ?_
      refine LL.nil ?_
      exact EE.round (k + 1, v') ⟨rfl, rfl, rfl, trivial⟩ ⟨by show k + 1 ≤ N; omega, q, by show OwnsT iE 1 _ _ _ v' (opF s (k + 1)); rw [hys]; exact o'⟩ (by show N - (k + 1) < N - k; omega)
theorem R.rem8 {P : Program} {w : World} {n : Nat} {D : List Deferred} {M : Slots} {o : Oper} {x y : Operand} {t u : TypeId} {a : Nat} (ho : o.op = .binOp .rem t x y u) (hx : evM M x = some (.int .u8 (a : Int))) (hy : evM M y = some (.int .u8 3)) : Runs P n D M o w (.value (.int .u8 ((a % 3 : Nat) : Int))) w :=
  R.bin ho hx hy (by
    have e : ((a : Int).tmod 3) = ((a % 3 : Nat) : Int) := by rw [Int.tmod_eq_emod_of_nonneg (by omega)]; simp
    obtain ⟨q, hq⟩ : ∃ q, a % 3 = q := ⟨_, rfl⟩
    rw [hq] at e ⊢
    simp [eqGuard, binOp, Op.intDiv, e])
theorem opF_up {s : List Cl} : ∀ k, (opF s k).Pairwise (· < ·)
  | 0 => List.Pairwise.nil
  | k + 1 => by
    show (opF s k ++ _).Pairwise _
    refine List.pairwise_append.2 ⟨opF_up k, ?_, fun a ha b hb => ?_⟩
    · split
      · split <;> simp
      · simp
    · have h1 := (opF_lt a ha).1
      have : b = k := by
        split at hb
        · split at hb
          · exact List.mem_singleton.1 hb
          · cases hb
        · cases hb
      omega
theorem crJ_fresh {s : List Cl} {ps : List Nat} {k : Nat} {c : Cl} (hc : s[k]? = some c) : ∀ (j : Nat), (∀ i, i < j → (opS s)[i]? ≠ some k) → (crJ s ps j)[k]? = some c.2.1
  | 0, _ => by
    show (s.map fun c => c.2.1)[k]? = _
    rw [List.getElem?_map, hc]
    rfl
  | j + 1, h => by
    have ih := crJ_fresh (ps := ps) hc j fun i hi => h i (by omega)
    unfold crJ
    split
    · rename_i k' p h1 h2
      split
      · have : k' ≠ k := fun e => h j (by omega) (by rw [h1, e])
        rw [List.getElem?_set_ne this]
        exact ih
      · exact ih
    · exact ih
theorem op_first {s : List Cl} {j k : Nat} (h : (opS s)[j]? = some k) : ∀ i, i < j → (opS s)[i]? ≠ some k := fun i hi e => by
  obtain ⟨h1, e1⟩ := List.getElem?_eq_some_iff.1 h
  obtain ⟨h2, e2⟩ := List.getElem?_eq_some_iff.1 e
  have := List.pairwise_iff_getElem.1 (opF_up (s := s) s.length) i j h2 h1 hi
  have e3 : (opF s s.length)[i] = k := e2
  have e4 : (opF s s.length)[j] = k := e1
  omega
def lsC (d : Cl) (x : Ln) : Cl := (d.1, x, d.2.2)
theorem cE_ls (d : Cl) (x : Ln) : cE (lsC d x) = (cE d).take 8 ++ lE x ++ (cE d).drop (8 + (lE x).length) := cX_l.symm
theorem ls_map {ds : List Cl} {k : Nat} {d : Cl} {x : Ln} : (ds.set k (lsC d x)).map (fun c => c.2.1) = (ds.map fun c => c.2.1).set k x := by
  rw [List.map_set]
  rfl
def nlC (d : Cl) : Cl := nwC d.2.1
set_option maxRecDepth 100000
set_option maxHeartbeats 8000000
theorem dcrash_any (s : List Cl) (g N cap : Nat) (a : Option Addr) (L cp : Nat) (ps : List Nat) (w : World) (hv : ReadsT cE 25 w (.slice (some ⟨g, 0, none⟩) N cap) s) (hl : s.length = N) (h0 : 0 < N) (hN : N ≤ 16384) (hps : ReadsT yE 1 w (.slice a L cp) ps) (hL : ps.length = L) (hL2 : L ≤ 1048576) (hb : ∀ p ∈ ps, p < 256) : Calls Try.prog 18 #[.slice (some ⟨g, 0, none⟩) N cap, .slice a L cp] w (docP ((crS s ps).map nwC) N w) := by
  unfold docP
  have q := Below.refl w.heap.size w
  have hvF : ∀ W, Below w.heap.size w W → ReadsT cE 25 W (.slice (some ⟨g, 0, none⟩) N cap) s := fun W b => hv.up b
  have hpF : ∀ W, Below w.heap.size w W → ReadsT yE 1 W (.slice a L cp) ps := fun W b => hps.up b
  clear hv hps
  refine X.fn Try.func18 rfl (n := 95) rfl rfl ?_
  refine CC.seq ?_
  refine CC.region ?_
  refine LL.val (R.assign rfl rfl) rfl rfl rfl ?_
  refine LL.nilS ?_
  refine CC.seq ?_
  refine CC.region ?_
  refine LL.lit (e := 70) [] 0 rfl rfl (fun _ => by kernel_rfl) rfl rfl ?_
  intro W30 g31 eg31 r32 z33 b29
  replace q := q.trans (b29.mono q.size)
  refine LL.val (R.move rfl rfl) rfl rfl rfl ?_
  have l54 := r32.lt
  (refine LL.append0 rfl rfl cEnc ElCl (RowL.own0 (cap := 0) (base := w.heap.size) (by assumption) rfl (by omega) (by simp [maxLen])) (hvF _ q) (by rw [hl]; simp only [maxLen]; omega) (by rw [hl]; omega) (by omega) rfl rfl ?_; intro v2 W53 o2 b50; obtain ⟨g2, cap2, rfl, hg2, hg3, hcap⟩ := ownsT_form o2 hl h0)
  have zb50 := b50.size
  replace r32 := r32.up b50
  replace b29 := b29.trans (b50.mono b29.size)
  replace q := q.trans (b50.mono q.size)
  refine LL.val (R.assign rfl rfl) rfl rfl rfl ?_
  refine LL.nilS ?_
  refine CC.seq ?_
  refine CC.region ?_
  refine LL.val (R.move rfl rfl) rfl rfl rfl ?_
  have l102 := r32.lt
  (refine LL.call (R.call rfl rfl rfl) rfl rfl rfl (dopen_any s g N cap _ (hvF _ q) hl hN) ?_; rintro e W101 ⟨vo, rfl, oo, b98⟩; refine ⟨_, rfl, ?_⟩; obtain ⟨a', cp', rfl, hcp'⟩ := (oo.reads iEnc).form rfl)
  have zb98 := b98.size
  replace b50 := b50.trans (b98.mono b50.size)
  replace o2 := o2.up b98
  replace r32 := r32.up b98
  replace b29 := b29.trans (b98.mono b29.size)
  replace q := q.trans (b98.mono q.size)
  refine LL.val (R.assign rfl rfl) rfl rfl rfl ?_
  refine LL.nilS ?_
  refine CC.seq ?_
  refine CC.seq ?_
  refine CC.region ?_
  refine LL.val (R.assign rfl rfl) rfl rfl rfl ?_
  refine LL.nilS ?_
  refine CC.block ?_
  have yq := q.size
  refine CC.loop (α := Nat × List Cl) (fun st => [(0, .slice (some ⟨g, 0, none⟩) N cap), (1, .slice a L cp), (5, .slice (some ⟨g2, 0, none⟩) N cap2), (6, .slice a' (opS s).length cp'), (7, .int .i64 (st.1 : Int))]) (fun st W => st.1 ≤ (opS s).length ∧ Below w.heap.size w W ∧ g2 < W.heap.size ∧ OwnsT cE 25 W w.heap.size 70 (.slice (some ⟨g2, 0, none⟩) N cap2) st.2 ∧ OwnsT iE 1 W (g2 + 1) 3 (.slice a' (opS s).length cp') (opS s) ∧ st.2.length = N ∧ st.2.map (fun c => c.2.1) = crJ s ps st.1) (fun st => (opS s).length - st.1) (0, s) ⟨rfl, rfl, rfl, rfl, rfl, trivial⟩ ⟨Nat.zero_le _, q, by omega, o2, oo.lower (by omega), hl, rfl⟩ ?_
  clear q o2 oo
  rintro ⟨j, ds⟩ W ⟨hj, q, hg4, o2, oo, hdl, hdm⟩
  simp only at hj o2 hdl hdm
  show CC none Try.prog _ 95 [] (sl [(0, .slice (some ⟨g, 0, none⟩) N cap), (1, .slice a L cp), (5, .slice (some ⟨g2, 0, none⟩) N cap2), (6, .slice a' (opS s).length cp'), (7, .int .i64 (j : Int))]) _ W
  have yw := q.size
  have hol := opF_len (s := s) s.length
  have hol2 : (opS s).length ≤ N := by unfold opS; omega
  by_cases hlt : j < (opS s).length
  case neg =>
    obtain rfl : j = (opS s).length := by omega
    clear oo
    refine CC.seq ?_
    refine CC.seq ?_
    refine CC.region ?_
    refine LL.val (R.move rfl rfl) rfl rfl rfl ?_
    refine LL.val (R.move rfl rfl) rfl rfl rfl ?_
    refine LL.val (R.len rfl rfl rfl rfl) rfl rfl rfl ?_
    refine LL.val (R.ltF rfl rfl rfl (by omega)) rfl rfl rfl ?_
    refine LL.nilS ?_
    refine CC.no rfl ?_
    refine CC.exit ?_
    refine EE.thenX ?_
    refine EE.thenX ?_
    refine EE.inX ?_
    refine EE.thenN ?_
    refine CC.seq ?_
    refine CC.seq ?_
    refine CC.region ?_
    refine LL.val (R.assign rfl rfl) rfl rfl rfl ?_
    refine LL.nilS ?_
    refine CC.block ?_
    refine CC.loop (α := Nat) (fun k => [(5, .slice (some ⟨g2, 0, none⟩) N cap2), (9, .int .i64 (k : Int))]) (fun k W => k ≤ N ∧ Below w.heap.size w W ∧ g2 < W.heap.size ∧ OwnsT cE 25 W w.heap.size 70 (.slice (some ⟨g2, 0, none⟩) N cap2) (mixS nlC ds k)) (fun k => N - k) 0 ⟨rfl, rfl, trivial⟩ ⟨Nat.zero_le _, q, hg4, by rw [mix_0]; exact o2⟩ ?_
    clear q o2 hg4
    rintro k W2 ⟨hk, q, hg4, o2⟩
    show CC none Try.prog _ 95 [] (sl [(5, .slice (some ⟨g2, 0, none⟩) N cap2), (9, .int .i64 (k : Int))]) _ W2
    have yw := q.size
    by_cases hlt : k < N
    case neg =>
      rw [mix_end (by omega)] at o2
      have hfin : ds.map nlC = (crS s ps).map nwC := by
        unfold crS
        rw [← hdm, List.map_map]
        rfl
      rw [hfin] at o2
      refine CC.seq ?_
      refine CC.seq ?_
      refine CC.region ?_
      refine LL.val (R.move rfl rfl) rfl rfl rfl ?_
      refine LL.val (R.move rfl rfl) rfl rfl rfl ?_
      refine LL.val (R.len rfl rfl rfl rfl) rfl rfl rfl ?_
      refine LL.val (R.ltF rfl rfl rfl (by omega)) rfl rfl rfl ?_
      refine LL.nilS ?_
      refine CC.no rfl ?_
      refine CC.exit ?_
      refine EE.thenX ?_
      refine EE.thenX ?_
      refine EE.inX ?_
      refine EE.thenN ?_
      refine CC.seq ?_
      refine CC.region ?_
      refine LL.val (R.move rfl rfl) rfl rfl rfl ?_
      refine LL.val (R.assign rfl rfl) rfl rfl rfl ?_
      refine LL.nilS ?_
      refine CC.ret ?_
      refine EE.ret _ rfl rfl ?_
      exact ⟨g2, cap2, rfl, o2.reads cEnc, hg2, hg4, q⟩
    obtain ⟨d, hd⟩ : ∃ d, ds[k]? = some d := ⟨_, List.getElem?_eq_getElem (by omega)⟩
    have hat := mix_at (f := nlC) hd
    have m1 : CellsN W2 ⟨g2, 0 + k * 25, none⟩ 25 (cX d.1 d.2.1 (d.2.2.getD zL) d.2.2.isSome) := (o2.reads cEnc).elemN cEnc hat
    have cb := m1.xl
    clear m1
    have hml : (mixS nlC ds k).length = N := by rw [mix_len]; exact hdl
    refine CC.seq ?_
    refine CC.seq ?_
    refine CC.region ?_
    refine LL.val (R.move rfl rfl) rfl rfl rfl ?_
    refine LL.val (R.move rfl rfl) rfl rfl rfl ?_
    refine LL.val (R.len rfl rfl rfl rfl) rfl rfl rfl ?_
    refine LL.val (R.ltT rfl rfl rfl (by omega)) rfl rfl rfl ?_
    refine LL.nilS ?_
    refine CC.yes rfl ?_
    refine CC.skip ?_
    refine EE.thenN ?_
    refine CC.seq ?_
    refine CC.block ?_
    refine CC.tailB 14 (by kernel_rfl) (by kernel_rfl) (fun Wc30 bc29 zc31 => ?_)
    replace q := q.trans (bc29.mono q.size)
    replace o2 := o2.up bc29
    replace cb := cb.up bc29
    refine SS.val (R.move rfl rfl) rfl rfl ?_
    refine SS.val (R.move rfl rfl) rfl rfl ?_
    refine SS.val (R.move rfl rfl) rfl rfl ?_
    refine SS.val (R.move rfl rfl) rfl rfl ?_
    refine SS.val (R.index rfl rfl rfl (I.ixS rfl (by omega))) rfl rfl ?_
    refine SS.val (R.field rfl rfl (I.fld rfl)) rfl rfl ?_
    refine SS.val (R.load rfl rfl (I.ldM (by assumption) rfl rfl)) rfl rfl ?_
    refine SS.val (R.move rfl rfl) rfl rfl ?_
    refine SS.val (R.move rfl rfl) rfl rfl ?_
    refine SS.val (R.index rfl rfl rfl (I.ixS rfl (by omega))) rfl rfl ?_
    refine SS.val (R.field rfl rfl (I.fld rfl)) rfl rfl ?_
    refine SS.val (R.load rfl rfl (I.ldM (by assumption) rfl rfl)) rfl rfl ?_
    (refine SS.val (R.build' rfl rfl (build_ev d.2.1 d.2.1 _)) rfl rfl ?_)
    refine SS.val (R.index rfl rfl rfl (I.ixS rfl (by omega))) rfl rfl ?_
    refine SS.nil ?_
    (refine LL.storeT (k := 25) (i := k) (u := nlC d) rfl (by show some (Value.pointer (some ⟨g2, 0 + k * 25, none⟩)) = some (Value.pointer (some ⟨g2, k * 25, none⟩)); rw [Nat.zero_add]) rfl rfl cEnc o2 (by omega) rfl rfl ?_; clear o2; intro Wc126 o2 grc124)
    have zgrc124 := grc124.size
    replace q := q.grown grc124 q.size (by rintro k ⟨⟩; omega)
    refine LL.nil ?_
    refine EE.inN ?_
    refine EE.thenN ?_
    refine CC.region ?_
    refine LL.val (R.move rfl rfl) rfl rfl rfl ?_
    refine LL.val (R.addNc rfl rfl rfl rfl (by omega)) rfl rfl rfl ?_
    refine LL.val (R.assign rfl rfl) rfl rfl rfl ?_
    refine LL.nil ?_
    exact EE.round (k + 1) ⟨rfl, rfl, trivial⟩ ⟨by show k + 1 ≤ N; omega, q, by omega, by rw [← mix_set hd]; exact o2⟩ (by show N - (k + 1) < N - k; omega)
  obtain ⟨k, hk⟩ : ∃ k, (opS s)[j]? = some k := ⟨_, List.getElem?_eq_getElem hlt⟩
  obtain ⟨hkl, c, hc, _⟩ := opF_lt k (List.mem_of_getElem? hk)
  obtain ⟨d, hd⟩ : ∃ d, ds[k]? = some d := ⟨_, List.getElem?_eq_getElem (by omega)⟩
  obtain ⟨bo, offo, rfl, hbo, hco⟩ := (oo.reads iEnc).one iEnc hk
  have c1 : W.cell? ⟨bo, offo + j, none⟩ = some (.int .i64 (k : Int)) := hco _ rfl
  have hbo2 : g2 + 1 ≤ bo := own_ge oo bo rfl
  clear hco
  have m1 : CellsN W ⟨g, 0 + k * 25, none⟩ 25 (cE c) := (hvF W q).elemN cEnc hc
  have hfr : (crJ s ps j).set k c.2.1 = crJ s ps j := by
    have := crJ_fresh (ps := ps) hc j (op_first hk)
    obtain ⟨h1, h2⟩ := List.getElem?_eq_some_iff.1 this
    rw [← h2]
    exact List.set_getElem_self h1
  by_cases hjL : j < L
  case neg =>
    have hcr := crJ_none (s := s) (ps := ps) (j := j) (List.getElem?_eq_none (by omega))
    refine CC.seq ?_
    refine CC.seq ?_
    refine CC.region ?_
    refine LL.val (R.move rfl rfl) rfl rfl rfl ?_
    refine LL.val (R.move rfl rfl) rfl rfl rfl ?_
    refine LL.val (R.len rfl rfl rfl rfl) rfl rfl rfl ?_
    refine LL.val (R.ltT rfl rfl rfl (by omega)) rfl rfl rfl ?_
    refine LL.nilS ?_
    refine CC.yes rfl ?_
    refine CC.skip ?_
    refine EE.thenN ?_
    refine CC.seq ?_
    refine CC.block ?_
    refine CC.seq ?_
    refine CC.region ?_
    refine LL.val (R.move rfl rfl) rfl rfl rfl ?_
    refine LL.val (R.move rfl rfl) rfl rfl rfl ?_
    refine LL.val (R.move rfl rfl) rfl rfl rfl ?_
    refine LL.val (R.index rfl rfl rfl (I.ixS1 rfl (by omega))) rfl rfl rfl ?_
    refine LL.val (R.load rfl rfl (I.ld1 rfl (by assumption))) rfl rfl rfl ?_
    refine LL.val (R.index rfl rfl rfl (I.ixS rfl (by omega))) rfl rfl rfl ?_
    refine LL.val (R.load rfl rfl (I.ldM (by assumption) rfl rfl)) rfl rfl rfl ?_
    refine LL.alloc ([Value.int IntKind.u64 0, Value.int IntKind.u64 0, Value.int IntKind.u64 0, Value.int IntKind.u64 0, Value.int IntKind.u64 0, Value.int IntKind.u64 0, Value.int IntKind.u64 0, Value.int IntKind.u64 0, Value.int IntKind.u64 0, Value.int IntKind.u64 0, Value.int IntKind.u64 0, Value.int IntKind.u64 0, Value.int IntKind.u64 0, Value.int IntKind.u64 0, Value.int IntKind.u64 0, Value.int IntKind.u64 0, Value.int IntKind.u64 0, Value.int IntKind.u64 0, Value.int IntKind.u64 0, Value.int IntKind.u64 0, Value.int IntKind.u64 0, Value.int IntKind.u64 0, Value.int IntKind.u64 0, Value.int IntKind.u64 0, Value.bool false]) rfl rfl rfl rfl rfl ?_
    intro Wd86 gd87 egd87 rd88 zd89 bd85
    replace q := q.trans (bd85.mono q.size)
    replace o2 := o2.up bd85
    replace oo := oo.up bd85
    replace c1 := cell_up c1 bd85
    replace m1 := m1.up bd85
    (refine LL.storeAll (vs := cX c.1 c.2.1 (c.2.2.getD zL) c.2.2.isSome) rfl rfl rfl rfl (cX_len _ _ _ _) (by assumption) rfl (cX_one _ _ _ _) rfl rfl ?_; intro Wd93 rx grd91 zzd96; have ca := (cX_cells rx).xn; have cb := (cX_cells rx).xl; have cq := (cX_cells rx).xq; have ch := (cX_cells rx).xh)
    have zgrd91 := grd91.size
    replace bd85 := bd85.grown grd91 bd85.size (by rintro k ⟨⟩; omega)
    replace q := q.grown grd91 q.size (by rintro k ⟨⟩; omega)
    replace o2 := o2.grown grd91 (fun e => by simp [Value.ownBlock] at e; omega)
    replace oo := oo.grown grd91 (fun e => by simp [Value.ownBlock] at e; omega)
    replace c1 := cell_gr c1 grd91 (by omega)
    refine LL.nilS ?_
    refine CC.seq ?_
    refine CC.seq ?_
    refine CC.region ?_
    refine LL.val (R.move rfl rfl) rfl rfl rfl ?_
    refine LL.val (R.move rfl rfl) rfl rfl rfl ?_
    refine LL.val (R.len rfl rfl rfl rfl) rfl rfl rfl ?_
    refine LL.val (R.ltF rfl rfl rfl (by omega)) rfl rfl rfl ?_
    refine LL.val (R.move rfl rfl) rfl rfl rfl ?_
    refine LL.skip rfl rfl ?_
    refine LL.skip rfl rfl ?_
    refine LL.skip rfl rfl ?_
    refine LL.skip rfl rfl ?_
    refine LL.skip rfl rfl ?_
    refine LL.skip rfl rfl ?_
    refine LL.val (R.pick rfl rfl rfl) rfl rfl rfl ?_
    refine LL.val (R.move rfl rfl) rfl rfl rfl ?_
    refine LL.skip rfl rfl ?_
    refine LL.skip rfl rfl ?_
    refine LL.val (R.pick rfl rfl rfl) rfl rfl rfl ?_
    refine LL.nilS ?_
    refine CC.no rfl ?_
    refine CC.skip ?_
    refine EE.thenN ?_
    refine CC.seq ?_
    refine CC.region ?_
    refine LL.val (R.move rfl rfl) rfl rfl rfl ?_
    refine LL.val (R.move rfl rfl) rfl rfl rfl ?_
    refine LL.val (R.len rfl rfl rfl rfl) rfl rfl rfl ?_
    refine LL.val (R.ltF rfl rfl rfl (by omega)) rfl rfl rfl ?_
    refine LL.val (R.move rfl rfl) rfl rfl rfl ?_
    refine LL.skip rfl rfl ?_
    refine LL.skip rfl rfl ?_
    refine LL.skip rfl rfl ?_
    refine LL.skip rfl rfl ?_
    refine LL.skip rfl rfl ?_
    refine LL.skip rfl rfl ?_
    refine LL.val (R.pick rfl rfl rfl) rfl rfl rfl ?_
    refine LL.nilS ?_
    refine CC.no rfl ?_
    refine CC.skip ?_
    refine EE.inN ?_
    refine EE.thenN ?_
    refine CC.region ?_
    refine LL.val (R.move rfl rfl) rfl rfl rfl ?_
    refine LL.val (R.addNc rfl rfl rfl rfl (by omega)) rfl rfl rfl ?_
    refine LL.val (R.assign rfl rfl) rfl rfl rfl ?_
    refine LL.nil ?_
    exact EE.round (j + 1, ds) ⟨rfl, rfl, rfl, rfl, rfl, trivial⟩ ⟨by show j + 1 ≤ _; omega, q, by show g2 < _; omega, o2, oo, hdl, by show ds.map (fun c => c.2.1) = crJ s ps (j + 1); rw [hcr]; exact hdm⟩ (by show (opS s).length - (j + 1) < (opS s).length - j; omega)
  obtain ⟨p, hp⟩ : ∃ p, ps[j]? = some p := ⟨_, List.getElem?_eq_getElem (by omega)⟩
  have hp256 := hb p (List.mem_of_getElem? hp)
  obtain ⟨bp, offp, rfl, hbp, hcp⟩ := (hpF W q).one yEnc hp
  have c2 : W.cell? ⟨bp, offp + j, none⟩ = some (.int .u8 (p : Int)) := hcp _ rfl
  have lbp : bp < w.heap.size := by obtain ⟨_, _, e, h, _⟩ := (hpF w (Below.refl _ _)).one yEnc hp; cases e; exact h
  clear hcp
  have hcr := crJ_step hk hp hc
  rcases (show p % 3 = 0 ∨ p % 3 = 1 ∨ p % 3 = 2 by omega) with h3 | h3 | h3
  · have hpk : pkL c p = c.2.1 := by unfold pkL; rw [if_pos h3]
    rw [hpk, hfr] at hcr
    refine CC.seq ?_
    refine CC.seq ?_
    refine CC.region ?_
    refine LL.val (R.move rfl rfl) rfl rfl rfl ?_
    refine LL.val (R.move rfl rfl) rfl rfl rfl ?_
    refine LL.val (R.len rfl rfl rfl rfl) rfl rfl rfl ?_
    refine LL.val (R.ltT rfl rfl rfl (by omega)) rfl rfl rfl ?_
    refine LL.nilS ?_
    refine CC.yes rfl ?_
    refine CC.skip ?_
    refine EE.thenN ?_
    refine CC.seq ?_
    refine CC.block ?_
    refine CC.seq ?_
    refine CC.region ?_
    refine LL.val (R.move rfl rfl) rfl rfl rfl ?_
    refine LL.val (R.move rfl rfl) rfl rfl rfl ?_
    refine LL.val (R.move rfl rfl) rfl rfl rfl ?_
    refine LL.val (R.index rfl rfl rfl (I.ixS1 rfl (by omega))) rfl rfl rfl ?_
    refine LL.val (R.load rfl rfl (I.ld1 rfl (by assumption))) rfl rfl rfl ?_
    refine LL.val (R.index rfl rfl rfl (I.ixS rfl (by omega))) rfl rfl rfl ?_
    refine LL.val (R.load rfl rfl (I.ldM (by assumption) rfl rfl)) rfl rfl rfl ?_
    refine LL.alloc ([Value.int IntKind.u64 0, Value.int IntKind.u64 0, Value.int IntKind.u64 0, Value.int IntKind.u64 0, Value.int IntKind.u64 0, Value.int IntKind.u64 0, Value.int IntKind.u64 0, Value.int IntKind.u64 0, Value.int IntKind.u64 0, Value.int IntKind.u64 0, Value.int IntKind.u64 0, Value.int IntKind.u64 0, Value.int IntKind.u64 0, Value.int IntKind.u64 0, Value.int IntKind.u64 0, Value.int IntKind.u64 0, Value.int IntKind.u64 0, Value.int IntKind.u64 0, Value.int IntKind.u64 0, Value.int IntKind.u64 0, Value.int IntKind.u64 0, Value.int IntKind.u64 0, Value.int IntKind.u64 0, Value.int IntKind.u64 0, Value.bool false]) rfl rfl rfl rfl rfl ?_
    intro We86 ge87 ege87 re88 ze89 be85
    replace q := q.trans (be85.mono q.size)
    replace o2 := o2.up be85
    replace oo := oo.up be85
    replace c1 := cell_up c1 be85
    replace m1 := m1.up be85
    replace c2 := cell_up c2 be85
    (refine LL.storeAll (vs := cX c.1 c.2.1 (c.2.2.getD zL) c.2.2.isSome) rfl rfl rfl rfl (cX_len _ _ _ _) (by assumption) rfl (cX_one _ _ _ _) rfl rfl ?_; intro We93 rx gre91 zze96; have ca := (cX_cells rx).xn; have cb := (cX_cells rx).xl; have cq := (cX_cells rx).xq; have ch := (cX_cells rx).xh)
    have zgre91 := gre91.size
    replace be85 := be85.grown gre91 be85.size (by rintro k ⟨⟩; omega)
    replace q := q.grown gre91 q.size (by rintro k ⟨⟩; omega)
    replace o2 := o2.grown gre91 (fun e => by simp [Value.ownBlock] at e; omega)
    replace oo := oo.grown gre91 (fun e => by simp [Value.ownBlock] at e; omega)
    replace c1 := cell_gr c1 gre91 (by omega)
    replace c2 := cell_gr c2 gre91 (by omega)
    refine LL.nilS ?_
    refine CC.seq ?_
    refine CC.seq ?_
    refine CC.region ?_
    refine LL.val (R.move rfl rfl) rfl rfl rfl ?_
    refine LL.val (R.move rfl rfl) rfl rfl rfl ?_
    refine LL.val (R.len rfl rfl rfl rfl) rfl rfl rfl ?_
    refine LL.val (R.ltT rfl rfl rfl (by omega)) rfl rfl rfl ?_
    refine LL.val (R.move rfl rfl) rfl rfl rfl ?_
    refine LL.val (R.move rfl rfl) rfl rfl rfl ?_
    refine LL.val (R.move rfl rfl) rfl rfl rfl ?_
    refine LL.val (R.index rfl rfl rfl (I.ixS1 rfl (by omega))) rfl rfl rfl ?_
    refine LL.val (R.load rfl rfl (I.ld1 rfl (by assumption))) rfl rfl rfl ?_
    (refine LL.val (R.rem8 rfl rfl rfl) rfl rfl rfl ?_)
    refine LL.val (R.eqF rfl rfl rfl (by omega)) rfl rfl rfl ?_
    refine LL.val (R.pick rfl rfl rfl) rfl rfl rfl ?_
    refine LL.val (R.move rfl rfl) rfl rfl rfl ?_
    refine LL.skip rfl rfl ?_
    refine LL.skip rfl rfl ?_
    refine LL.val (R.pick rfl rfl rfl) rfl rfl rfl ?_
    refine LL.nilS ?_
    refine CC.no rfl ?_
    refine CC.skip ?_
    refine EE.thenN ?_
    refine CC.seq ?_
    refine CC.region ?_
    refine LL.val (R.move rfl rfl) rfl rfl rfl ?_
    refine LL.val (R.move rfl rfl) rfl rfl rfl ?_
    refine LL.val (R.len rfl rfl rfl rfl) rfl rfl rfl ?_
    refine LL.val (R.ltT rfl rfl rfl (by omega)) rfl rfl rfl ?_
    refine LL.val (R.move rfl rfl) rfl rfl rfl ?_
    refine LL.val (R.move rfl rfl) rfl rfl rfl ?_
    refine LL.val (R.move rfl rfl) rfl rfl rfl ?_
    refine LL.val (R.index rfl rfl rfl (I.ixS1 rfl (by omega))) rfl rfl rfl ?_
    refine LL.val (R.load rfl rfl (I.ld1 rfl (by assumption))) rfl rfl rfl ?_
    (refine LL.val (R.rem8 rfl rfl rfl) rfl rfl rfl ?_)
    refine LL.val (R.eqF rfl rfl rfl (by omega)) rfl rfl rfl ?_
    refine LL.val (R.pick rfl rfl rfl) rfl rfl rfl ?_
    refine LL.nilS ?_
    refine CC.no rfl ?_
    refine CC.skip ?_
    refine EE.inN ?_
    refine EE.thenN ?_
    refine CC.region ?_
    refine LL.val (R.move rfl rfl) rfl rfl rfl ?_
    refine LL.val (R.addNc rfl rfl rfl rfl (by omega)) rfl rfl rfl ?_
    refine LL.val (R.assign rfl rfl) rfl rfl rfl ?_
    refine LL.nil ?_
    exact EE.round (j + 1, ds) ⟨rfl, rfl, rfl, rfl, rfl, trivial⟩ ⟨by show j + 1 ≤ _; omega, q, by show g2 < _; omega, o2, oo, hdl, by show ds.map (fun c => c.2.1) = crJ s ps (j + 1); rw [hcr]; exact hdm⟩ (by show (opS s).length - (j + 1) < (opS s).length - j; omega)
  · have hpk : pkL c p = c.2.2.getD c.2.1 := by unfold pkL; rw [if_neg (by omega), if_pos h3]
    rw [hpk] at hcr
    cases hx : c.2.2 with
    | none =>
      rw [hx] at hcr
      replace hcr := hcr.trans hfr
      replace m1 : CellsN W ⟨g, 0 + k * 25, none⟩ 25 (cX c.1 c.2.1 zL false) := by have := m1; rw [cE_cX, hx] at this; exact this
      refine CC.seq ?_
      refine CC.seq ?_
      refine CC.region ?_
      refine LL.val (R.move rfl rfl) rfl rfl rfl ?_
      refine LL.val (R.move rfl rfl) rfl rfl rfl ?_
      refine LL.val (R.len rfl rfl rfl rfl) rfl rfl rfl ?_
      refine LL.val (R.ltT rfl rfl rfl (by omega)) rfl rfl rfl ?_
      refine LL.nilS ?_
      refine CC.yes rfl ?_
      refine CC.skip ?_
      refine EE.thenN ?_
      refine CC.seq ?_
      refine CC.block ?_
      refine CC.seq ?_
      refine CC.region ?_
      refine LL.val (R.move rfl rfl) rfl rfl rfl ?_
      refine LL.val (R.move rfl rfl) rfl rfl rfl ?_
      refine LL.val (R.move rfl rfl) rfl rfl rfl ?_
      refine LL.val (R.index rfl rfl rfl (I.ixS1 rfl (by omega))) rfl rfl rfl ?_
      refine LL.val (R.load rfl rfl (I.ld1 rfl (by assumption))) rfl rfl rfl ?_
      refine LL.val (R.index rfl rfl rfl (I.ixS rfl (by omega))) rfl rfl rfl ?_
      refine LL.val (R.load rfl rfl (I.ldM (by assumption) rfl rfl)) rfl rfl rfl ?_
      refine LL.alloc ([Value.int IntKind.u64 0, Value.int IntKind.u64 0, Value.int IntKind.u64 0, Value.int IntKind.u64 0, Value.int IntKind.u64 0, Value.int IntKind.u64 0, Value.int IntKind.u64 0, Value.int IntKind.u64 0, Value.int IntKind.u64 0, Value.int IntKind.u64 0, Value.int IntKind.u64 0, Value.int IntKind.u64 0, Value.int IntKind.u64 0, Value.int IntKind.u64 0, Value.int IntKind.u64 0, Value.int IntKind.u64 0, Value.int IntKind.u64 0, Value.int IntKind.u64 0, Value.int IntKind.u64 0, Value.int IntKind.u64 0, Value.int IntKind.u64 0, Value.int IntKind.u64 0, Value.int IntKind.u64 0, Value.int IntKind.u64 0, Value.bool false]) rfl rfl rfl rfl rfl ?_
      intro Wf86 gf87 egf87 rf88 zf89 bf85
      replace q := q.trans (bf85.mono q.size)
      replace o2 := o2.up bf85
      replace oo := oo.up bf85
      replace c1 := cell_up c1 bf85
      replace c2 := cell_up c2 bf85
      replace m1 := m1.up bf85
      (refine LL.storeAll (vs := cX c.1 c.2.1 zL false) rfl rfl rfl rfl (cX_len _ _ _ _) (by assumption) rfl (cX_one _ _ _ _) rfl rfl ?_; intro Wf93 rx grf91 zzf96; have ca := (cX_cells rx).xn; have cb := (cX_cells rx).xl; have cq := (cX_cells rx).xq; have ch := (cX_cells rx).xh)
      have zgrf91 := grf91.size
      replace bf85 := bf85.grown grf91 bf85.size (by rintro k ⟨⟩; omega)
      replace q := q.grown grf91 q.size (by rintro k ⟨⟩; omega)
      replace o2 := o2.grown grf91 (fun e => by simp [Value.ownBlock] at e; omega)
      replace oo := oo.grown grf91 (fun e => by simp [Value.ownBlock] at e; omega)
      replace c1 := cell_gr c1 grf91 (by omega)
      replace c2 := cell_gr c2 grf91 (by omega)
      refine LL.nilS ?_
      refine CC.seq ?_
      refine CC.seq ?_
      refine CC.region ?_
      refine LL.val (R.move rfl rfl) rfl rfl rfl ?_
      refine LL.val (R.move rfl rfl) rfl rfl rfl ?_
      refine LL.val (R.len rfl rfl rfl rfl) rfl rfl rfl ?_
      refine LL.val (R.ltT rfl rfl rfl (by omega)) rfl rfl rfl ?_
      refine LL.val (R.move rfl rfl) rfl rfl rfl ?_
      refine LL.val (R.move rfl rfl) rfl rfl rfl ?_
      refine LL.val (R.move rfl rfl) rfl rfl rfl ?_
      refine LL.val (R.index rfl rfl rfl (I.ixS1 rfl (by omega))) rfl rfl rfl ?_
      refine LL.val (R.load rfl rfl (I.ld1 rfl (by assumption))) rfl rfl rfl ?_
      (refine LL.val (R.rem8 rfl rfl rfl) rfl rfl rfl ?_)
      refine LL.val (R.eqT rfl rfl rfl (by omega)) rfl rfl rfl ?_
      refine LL.val (R.pick rfl rfl rfl) rfl rfl rfl ?_
      refine LL.val (R.move rfl rfl) rfl rfl rfl ?_
      refine LL.val (R.field rfl rfl (I.fld rfl)) rfl rfl rfl ?_
      refine LL.val (R.load rfl rfl (I.ld1 rfl (by assumption))) rfl rfl rfl ?_
      refine LL.val (R.pick rfl rfl rfl) rfl rfl rfl ?_
      refine LL.nilS ?_
      refine CC.no rfl ?_
      refine CC.skip ?_
      refine EE.thenN ?_
      refine CC.seq ?_
      refine CC.region ?_
      refine LL.val (R.move rfl rfl) rfl rfl rfl ?_
      refine LL.val (R.move rfl rfl) rfl rfl rfl ?_
      refine LL.val (R.len rfl rfl rfl rfl) rfl rfl rfl ?_
      refine LL.val (R.ltT rfl rfl rfl (by omega)) rfl rfl rfl ?_
      refine LL.val (R.move rfl rfl) rfl rfl rfl ?_
      refine LL.val (R.move rfl rfl) rfl rfl rfl ?_
      refine LL.val (R.move rfl rfl) rfl rfl rfl ?_
      refine LL.val (R.index rfl rfl rfl (I.ixS1 rfl (by omega))) rfl rfl rfl ?_
      refine LL.val (R.load rfl rfl (I.ld1 rfl (by assumption))) rfl rfl rfl ?_
      (refine LL.val (R.rem8 rfl rfl rfl) rfl rfl rfl ?_)
      refine LL.val (R.eqF rfl rfl rfl (by omega)) rfl rfl rfl ?_
      refine LL.val (R.pick rfl rfl rfl) rfl rfl rfl ?_
      refine LL.nilS ?_
      refine CC.no rfl ?_
      refine CC.skip ?_
      refine EE.inN ?_
      refine EE.thenN ?_
      refine CC.region ?_
      refine LL.val (R.move rfl rfl) rfl rfl rfl ?_
      refine LL.val (R.addNc rfl rfl rfl rfl (by omega)) rfl rfl rfl ?_
      refine LL.val (R.assign rfl rfl) rfl rfl rfl ?_
      refine LL.nil ?_
      exact EE.round (j + 1, ds) ⟨rfl, rfl, rfl, rfl, rfl, trivial⟩ ⟨by show j + 1 ≤ _; omega, q, by show g2 < _; omega, o2, oo, hdl, by show ds.map (fun c => c.2.1) = crJ s ps (j + 1); rw [hcr]; exact hdm⟩ (by show (opS s).length - (j + 1) < (opS s).length - j; omega)
    | some x =>
      rw [hx] at hcr
      replace hcr : crJ s ps (j + 1) = (crJ s ps j).set k x := hcr
      replace m1 : CellsN W ⟨g, 0 + k * 25, none⟩ 25 (cX c.1 c.2.1 x true) := by have := m1; rw [cE_cX, hx] at this; exact this
      refine CC.seq ?_
      refine CC.seq ?_
      refine CC.region ?_
      refine LL.val (R.move rfl rfl) rfl rfl rfl ?_
      refine LL.val (R.move rfl rfl) rfl rfl rfl ?_
      refine LL.val (R.len rfl rfl rfl rfl) rfl rfl rfl ?_
      refine LL.val (R.ltT rfl rfl rfl (by omega)) rfl rfl rfl ?_
      refine LL.nilS ?_
      refine CC.yes rfl ?_
      refine CC.skip ?_
      refine EE.thenN ?_
      refine CC.seq ?_
      refine CC.block ?_
      refine CC.seq ?_
      refine CC.region ?_
      refine LL.val (R.move rfl rfl) rfl rfl rfl ?_
      refine LL.val (R.move rfl rfl) rfl rfl rfl ?_
      refine LL.val (R.move rfl rfl) rfl rfl rfl ?_
      refine LL.val (R.index rfl rfl rfl (I.ixS1 rfl (by omega))) rfl rfl rfl ?_
      refine LL.val (R.load rfl rfl (I.ld1 rfl (by assumption))) rfl rfl rfl ?_
      refine LL.val (R.index rfl rfl rfl (I.ixS rfl (by omega))) rfl rfl rfl ?_
      refine LL.val (R.load rfl rfl (I.ldM (by assumption) rfl rfl)) rfl rfl rfl ?_
      refine LL.alloc ([Value.int IntKind.u64 0, Value.int IntKind.u64 0, Value.int IntKind.u64 0, Value.int IntKind.u64 0, Value.int IntKind.u64 0, Value.int IntKind.u64 0, Value.int IntKind.u64 0, Value.int IntKind.u64 0, Value.int IntKind.u64 0, Value.int IntKind.u64 0, Value.int IntKind.u64 0, Value.int IntKind.u64 0, Value.int IntKind.u64 0, Value.int IntKind.u64 0, Value.int IntKind.u64 0, Value.int IntKind.u64 0, Value.int IntKind.u64 0, Value.int IntKind.u64 0, Value.int IntKind.u64 0, Value.int IntKind.u64 0, Value.int IntKind.u64 0, Value.int IntKind.u64 0, Value.int IntKind.u64 0, Value.int IntKind.u64 0, Value.bool false]) rfl rfl rfl rfl rfl ?_
      intro Wg170 gg171 egg171 rg172 zg173 bg169
      replace q := q.trans (bg169.mono q.size)
      replace o2 := o2.up bg169
      replace oo := oo.up bg169
      replace c1 := cell_up c1 bg169
      replace c2 := cell_up c2 bg169
      replace m1 := m1.up bg169
      (refine LL.storeAll (vs := cX c.1 c.2.1 x true) rfl rfl rfl rfl (cX_len _ _ _ _) (by assumption) rfl (cX_one _ _ _ _) rfl rfl ?_; intro Wg177 rx grg175 zzg180; have ca := (cX_cells rx).xn; have cb := (cX_cells rx).xl; have cq := (cX_cells rx).xq; have ch := (cX_cells rx).xh)
      have zgrg175 := grg175.size
      replace bg169 := bg169.grown grg175 bg169.size (by rintro k ⟨⟩; omega)
      replace q := q.grown grg175 q.size (by rintro k ⟨⟩; omega)
      replace o2 := o2.grown grg175 (fun e => by simp [Value.ownBlock] at e; omega)
      replace oo := oo.grown grg175 (fun e => by simp [Value.ownBlock] at e; omega)
      replace c1 := cell_gr c1 grg175 (by omega)
      replace c2 := cell_gr c2 grg175 (by omega)
      refine LL.nilS ?_
      refine CC.seq ?_
      refine CC.seq ?_
      refine CC.region ?_
      refine LL.val (R.move rfl rfl) rfl rfl rfl ?_
      refine LL.val (R.move rfl rfl) rfl rfl rfl ?_
      refine LL.val (R.len rfl rfl rfl rfl) rfl rfl rfl ?_
      refine LL.val (R.ltT rfl rfl rfl (by omega)) rfl rfl rfl ?_
      refine LL.val (R.move rfl rfl) rfl rfl rfl ?_
      refine LL.val (R.move rfl rfl) rfl rfl rfl ?_
      refine LL.val (R.move rfl rfl) rfl rfl rfl ?_
      refine LL.val (R.index rfl rfl rfl (I.ixS1 rfl (by omega))) rfl rfl rfl ?_
      refine LL.val (R.load rfl rfl (I.ld1 rfl (by assumption))) rfl rfl rfl ?_
      (refine LL.val (R.rem8 rfl rfl rfl) rfl rfl rfl ?_)
      refine LL.val (R.eqT rfl rfl rfl (by omega)) rfl rfl rfl ?_
      refine LL.val (R.pick rfl rfl rfl) rfl rfl rfl ?_
      refine LL.val (R.move rfl rfl) rfl rfl rfl ?_
      refine LL.val (R.field rfl rfl (I.fld rfl)) rfl rfl rfl ?_
      refine LL.val (R.load rfl rfl (I.ld1 rfl (by assumption))) rfl rfl rfl ?_
      refine LL.val (R.pick rfl rfl rfl) rfl rfl rfl ?_
      refine LL.nilS ?_
      refine CC.yes rfl ?_
      refine CC.tailB 9 (by kernel_rfl) (by kernel_rfl) (fun Wg399 bg398 zg400 => ?_)
      replace rx := rx.up bg398
      replace ca := ca.up bg398
      replace cb := cb.up bg398
      replace cq := cq.up bg398
      replace ch := cell_up ch bg398
      replace bg169 := bg169.trans (bg398.mono bg169.size)
      replace q := q.trans (bg398.mono q.size)
      replace o2 := o2.up bg398
      replace oo := oo.up bg398
      replace c1 := cell_up c1 bg398
      replace c2 := cell_up c2 bg398
      refine SS.val (R.move rfl rfl) rfl rfl ?_
      refine SS.val (R.move rfl rfl) rfl rfl ?_
      refine SS.val (R.move rfl rfl) rfl rfl ?_
      refine SS.val (R.index rfl rfl rfl (I.ixS1 rfl (by omega))) rfl rfl ?_
      refine SS.val (R.load rfl rfl (I.ld1 rfl (by assumption))) rfl rfl ?_
      refine SS.val (R.field rfl rfl (I.fld rfl)) rfl rfl ?_
      refine SS.val (R.load rfl rfl (I.ldM (by assumption) rfl rfl)) rfl rfl ?_
      refine SS.val (R.index rfl rfl rfl (I.ixS rfl (by omega))) rfl rfl ?_
      refine SS.val (R.field rfl rfl (I.fld rfl)) rfl rfl ?_
      refine SS.nil ?_
      (refine LL.storeFs k 8 d (lsC d (x)) rfl rfl rfl (by rw [lE_len]; rfl) (by show 0 + k * 25 + 8 = k * 25 + 8; omega) cEnc o2 hd (by rw [lE_len]; omega) (cE_ls _ _) (lE_one _) rfl rfl ?_; clear o2; intro Wg537 o2 grg535 zzg540)
      have zgrg535 := grg535.size
      replace rx := rx.gr grg535 (by have := rx.lt; omega)
      replace ca := ca.gr grg535 (by have := ca.lt; omega)
      replace cb := cb.gr grg535 (by have := cb.lt; omega)
      replace cq := cq.gr grg535 (by have := cq.lt; omega)
      replace ch := cell_gr ch grg535 (by omega)
      replace q := q.grown grg535 q.size (by rintro k ⟨⟩; omega)
      replace oo := oo.grown grg535 (own_ne oo (by omega))
      replace c1 := cell_gr c1 grg535 (by omega)
      replace c2 := cell_gr c2 grg535 (by omega)
      refine LL.nilS ?_
      refine CC.seq ?_
      refine CC.region ?_
      refine LL.val (R.move rfl rfl) rfl rfl rfl ?_
      refine LL.val (R.move rfl rfl) rfl rfl rfl ?_
      refine LL.val (R.len rfl rfl rfl rfl) rfl rfl rfl ?_
      refine LL.val (R.ltT rfl rfl rfl (by omega)) rfl rfl rfl ?_
      refine LL.val (R.move rfl rfl) rfl rfl rfl ?_
      refine LL.val (R.move rfl rfl) rfl rfl rfl ?_
      refine LL.val (R.move rfl rfl) rfl rfl rfl ?_
      refine LL.val (R.index rfl rfl rfl (I.ixS1 rfl (by omega))) rfl rfl rfl ?_
      refine LL.val (R.load rfl rfl (I.ld1 rfl (by assumption))) rfl rfl rfl ?_
      (refine LL.val (R.rem8 rfl rfl rfl) rfl rfl rfl ?_)
      refine LL.val (R.eqF rfl rfl rfl (by omega)) rfl rfl rfl ?_
      refine LL.val (R.pick rfl rfl rfl) rfl rfl rfl ?_
      refine LL.nilS ?_
      refine CC.no rfl ?_
      refine CC.skip ?_
      refine EE.inN ?_
      refine EE.thenN ?_
      refine CC.region ?_
      refine LL.val (R.move rfl rfl) rfl rfl rfl ?_
      refine LL.val (R.addNc rfl rfl rfl rfl (by omega)) rfl rfl rfl ?_
      refine LL.val (R.assign rfl rfl) rfl rfl rfl ?_
      refine LL.nil ?_
      exact EE.round (j + 1, ds.set k (lsC d x)) ⟨rfl, rfl, rfl, rfl, rfl, trivial⟩ ⟨by show j + 1 ≤ _; omega, q, by show g2 < _; omega, o2, oo, by show (ds.set k _).length = N; rw [List.length_set]; exact hdl, by show (ds.set k _).map (fun c => c.2.1) = crJ s ps (j + 1); rw [ls_map, hcr, hdm]⟩ (by show (opS s).length - (j + 1) < (opS s).length - j; omega)
  · have hpk : pkL c p = c.1 := by unfold pkL; rw [if_neg (by omega), if_neg (by omega)]
    rw [hpk] at hcr
    refine CC.seq ?_
    refine CC.seq ?_
    refine CC.region ?_
    refine LL.val (R.move rfl rfl) rfl rfl rfl ?_
    refine LL.val (R.move rfl rfl) rfl rfl rfl ?_
    refine LL.val (R.len rfl rfl rfl rfl) rfl rfl rfl ?_
    refine LL.val (R.ltT rfl rfl rfl (by omega)) rfl rfl rfl ?_
    refine LL.nilS ?_
    refine CC.yes rfl ?_
    refine CC.skip ?_
    refine EE.thenN ?_
    refine CC.seq ?_
    refine CC.block ?_
    refine CC.seq ?_
    refine CC.region ?_
    refine LL.val (R.move rfl rfl) rfl rfl rfl ?_
    refine LL.val (R.move rfl rfl) rfl rfl rfl ?_
    refine LL.val (R.move rfl rfl) rfl rfl rfl ?_
    refine LL.val (R.index rfl rfl rfl (I.ixS1 rfl (by omega))) rfl rfl rfl ?_
    refine LL.val (R.load rfl rfl (I.ld1 rfl (by assumption))) rfl rfl rfl ?_
    refine LL.val (R.index rfl rfl rfl (I.ixS rfl (by omega))) rfl rfl rfl ?_
    refine LL.val (R.load rfl rfl (I.ldM (by assumption) rfl rfl)) rfl rfl rfl ?_
    refine LL.alloc ([Value.int IntKind.u64 0, Value.int IntKind.u64 0, Value.int IntKind.u64 0, Value.int IntKind.u64 0, Value.int IntKind.u64 0, Value.int IntKind.u64 0, Value.int IntKind.u64 0, Value.int IntKind.u64 0, Value.int IntKind.u64 0, Value.int IntKind.u64 0, Value.int IntKind.u64 0, Value.int IntKind.u64 0, Value.int IntKind.u64 0, Value.int IntKind.u64 0, Value.int IntKind.u64 0, Value.int IntKind.u64 0, Value.int IntKind.u64 0, Value.int IntKind.u64 0, Value.int IntKind.u64 0, Value.int IntKind.u64 0, Value.int IntKind.u64 0, Value.int IntKind.u64 0, Value.int IntKind.u64 0, Value.int IntKind.u64 0, Value.bool false]) rfl rfl rfl rfl rfl ?_
    intro Wh170 gh171 egh171 rh172 zh173 bh169
    replace q := q.trans (bh169.mono q.size)
    replace o2 := o2.up bh169
    replace oo := oo.up bh169
    replace c1 := cell_up c1 bh169
    replace m1 := m1.up bh169
    replace c2 := cell_up c2 bh169
    (refine LL.storeAll (vs := cX c.1 c.2.1 (c.2.2.getD zL) c.2.2.isSome) rfl rfl rfl rfl (cX_len _ _ _ _) (by assumption) rfl (cX_one _ _ _ _) rfl rfl ?_; intro Wh177 rx grh175 zzh180; have ca := (cX_cells rx).xn; have cb := (cX_cells rx).xl; have cq := (cX_cells rx).xq; have ch := (cX_cells rx).xh)
    have zgrh175 := grh175.size
    replace bh169 := bh169.grown grh175 bh169.size (by rintro k ⟨⟩; omega)
    replace q := q.grown grh175 q.size (by rintro k ⟨⟩; omega)
    replace o2 := o2.grown grh175 (fun e => by simp [Value.ownBlock] at e; omega)
    replace oo := oo.grown grh175 (fun e => by simp [Value.ownBlock] at e; omega)
    replace c1 := cell_gr c1 grh175 (by omega)
    replace c2 := cell_gr c2 grh175 (by omega)
    refine LL.nilS ?_
    refine CC.seq ?_
    refine CC.seq ?_
    refine CC.region ?_
    refine LL.val (R.move rfl rfl) rfl rfl rfl ?_
    refine LL.val (R.move rfl rfl) rfl rfl rfl ?_
    refine LL.val (R.len rfl rfl rfl rfl) rfl rfl rfl ?_
    refine LL.val (R.ltT rfl rfl rfl (by omega)) rfl rfl rfl ?_
    refine LL.val (R.move rfl rfl) rfl rfl rfl ?_
    refine LL.val (R.move rfl rfl) rfl rfl rfl ?_
    refine LL.val (R.move rfl rfl) rfl rfl rfl ?_
    refine LL.val (R.index rfl rfl rfl (I.ixS1 rfl (by omega))) rfl rfl rfl ?_
    refine LL.val (R.load rfl rfl (I.ld1 rfl (by assumption))) rfl rfl rfl ?_
    (refine LL.val (R.rem8 rfl rfl rfl) rfl rfl rfl ?_)
    refine LL.val (R.eqF rfl rfl rfl (by omega)) rfl rfl rfl ?_
    refine LL.val (R.pick rfl rfl rfl) rfl rfl rfl ?_
    refine LL.val (R.move rfl rfl) rfl rfl rfl ?_
    refine LL.skip rfl rfl ?_
    refine LL.skip rfl rfl ?_
    refine LL.val (R.pick rfl rfl rfl) rfl rfl rfl ?_
    refine LL.nilS ?_
    refine CC.no rfl ?_
    refine CC.skip ?_
    refine EE.thenN ?_
    refine CC.seq ?_
    refine CC.region ?_
    refine LL.val (R.move rfl rfl) rfl rfl rfl ?_
    refine LL.val (R.move rfl rfl) rfl rfl rfl ?_
    refine LL.val (R.len rfl rfl rfl rfl) rfl rfl rfl ?_
    refine LL.val (R.ltT rfl rfl rfl (by omega)) rfl rfl rfl ?_
    refine LL.val (R.move rfl rfl) rfl rfl rfl ?_
    refine LL.val (R.move rfl rfl) rfl rfl rfl ?_
    refine LL.val (R.move rfl rfl) rfl rfl rfl ?_
    refine LL.val (R.index rfl rfl rfl (I.ixS1 rfl (by omega))) rfl rfl rfl ?_
    refine LL.val (R.load rfl rfl (I.ld1 rfl (by assumption))) rfl rfl rfl ?_
    (refine LL.val (R.rem8 rfl rfl rfl) rfl rfl rfl ?_)
    refine LL.val (R.eqT rfl rfl rfl (by omega)) rfl rfl rfl ?_
    refine LL.val (R.pick rfl rfl rfl) rfl rfl rfl ?_
    refine LL.nilS ?_
    refine CC.yes rfl ?_
    refine CC.tailB 9 (by kernel_rfl) (by kernel_rfl) (fun Wh532 bh531 zh533 => ?_)
    replace rx := rx.up bh531
    replace ca := ca.up bh531
    replace cb := cb.up bh531
    replace cq := cq.up bh531
    replace ch := cell_up ch bh531
    replace bh169 := bh169.trans (bh531.mono bh169.size)
    replace q := q.trans (bh531.mono q.size)
    replace o2 := o2.up bh531
    replace oo := oo.up bh531
    replace c1 := cell_up c1 bh531
    replace c2 := cell_up c2 bh531
    refine SS.val (R.move rfl rfl) rfl rfl ?_
    refine SS.val (R.move rfl rfl) rfl rfl ?_
    refine SS.val (R.move rfl rfl) rfl rfl ?_
    refine SS.val (R.index rfl rfl rfl (I.ixS1 rfl (by omega))) rfl rfl ?_
    refine SS.val (R.load rfl rfl (I.ld1 rfl (by assumption))) rfl rfl ?_
    refine SS.val (R.field rfl rfl (I.fld rfl)) rfl rfl ?_
    refine SS.val (R.load rfl rfl (I.ldM (by assumption) rfl rfl)) rfl rfl ?_
    refine SS.val (R.index rfl rfl rfl (I.ixS rfl (by omega))) rfl rfl ?_
    refine SS.val (R.field rfl rfl (I.fld rfl)) rfl rfl ?_
    refine SS.nil ?_
    (refine LL.storeFs k 8 d (lsC d (c.1)) rfl rfl rfl (by rw [lE_len]; rfl) (by show 0 + k * 25 + 8 = k * 25 + 8; omega) cEnc o2 hd (by rw [lE_len]; omega) (cE_ls _ _) (lE_one _) rfl rfl ?_; clear o2; intro Wh670 o2 grh668 zzh673)
    have zgrh668 := grh668.size
    replace rx := rx.gr grh668 (by have := rx.lt; omega)
    replace ca := ca.gr grh668 (by have := ca.lt; omega)
    replace cb := cb.gr grh668 (by have := cb.lt; omega)
    replace cq := cq.gr grh668 (by have := cq.lt; omega)
    replace ch := cell_gr ch grh668 (by omega)
    replace q := q.grown grh668 q.size (by rintro k ⟨⟩; omega)
    replace oo := oo.grown grh668 (own_ne oo (by omega))
    replace c1 := cell_gr c1 grh668 (by omega)
    replace c2 := cell_gr c2 grh668 (by omega)
    refine LL.nil ?_
    refine EE.inN ?_
    refine EE.thenN ?_
    refine CC.region ?_
    refine LL.val (R.move rfl rfl) rfl rfl rfl ?_
    refine LL.val (R.addNc rfl rfl rfl rfl (by omega)) rfl rfl rfl ?_
    refine LL.val (R.assign rfl rfl) rfl rfl rfl ?_
    refine LL.nil ?_
    exact EE.round (j + 1, ds.set k (lsC d c.1)) ⟨rfl, rfl, rfl, rfl, rfl, trivial⟩ ⟨by show j + 1 ≤ _; omega, q, by show g2 < _; omega, o2, oo, by show (ds.set k _).length = N; rw [List.length_set]; exact hdl, by show (ds.set k _).map (fun c => c.2.1) = crJ s ps (j + 1); rw [ls_map, hcr, hdm]⟩ (by show (opS s).length - (j + 1) < (opS s).length - j; omega)
set_option maxRecDepth 100000
set_option maxHeartbeats 8000000
theorem dsame_any (a1 a2 : Option Addr) (n1 n2 c1 c2 : Nat) (l1 l2 : List Nat) (w : World) (h1 : ReadsT uE 1 w (.slice a1 n1 c1) l1) (h2 : ReadsT uE 1 w (.slice a2 n2 c2) l2) (e1 : l1.length = n1) (e2 : l2.length = n2) (hN : n1 ≤ 1048576) (hN2 : n2 ≤ 1048576) :
    Calls Try.prog 37 #[.slice a1 n1 c1, .slice a2 n2 c2] w fun e w' => e = .returned (.bool (decide (l1 = l2))) ∧ Below w.heap.size w w' := by
  have q := Below.refl w.heap.size w
  have hF1 : ∀ W, Below w.heap.size w W → ReadsT uE 1 W (.slice a1 n1 c1) l1 := fun W hb => h1.up hb
  have hF2 : ∀ W, Below w.heap.size w W → ReadsT uE 1 W (.slice a2 n2 c2) l2 := fun W hb => h2.up hb
  clear h1 h2
  by_cases hn : n1 = n2
  case neg =>
    rw [decide_eq_false fun e => hn (by rw [← e1, ← e2, e])]
    refine X.fn Try.func37 rfl (n := 26) rfl rfl ?_
    refine CC.seq ?_
    refine CC.region ?_
    refine LL.val (R.assign rfl rfl) rfl rfl rfl ?_
    refine LL.nilS ?_
    refine CC.seq ?_
    refine CC.seq ?_
    refine CC.region ?_
    refine LL.val (R.move rfl rfl) rfl rfl rfl ?_
    refine LL.val (R.len rfl rfl rfl rfl) rfl rfl rfl ?_
    refine LL.val (R.move rfl rfl) rfl rfl rfl ?_
    refine LL.val (R.len rfl rfl rfl rfl) rfl rfl rfl ?_
    refine LL.val (R.neT rfl rfl rfl (by omega)) rfl rfl rfl ?_
    refine LL.nilS ?_
    refine CC.yes rfl ?_
    refine CC.seq ?_
    refine CC.region ?_
    refine LL.val (R.assign rfl rfl) rfl rfl rfl ?_
    refine LL.nilS ?_
    refine CC.ret ?_
    refine EE.thenR ?_
    refine EE.ret _ rfl rfl ?_
    exact ⟨rfl, q⟩
  subst hn
  refine X.fn Try.func37 rfl (n := 26) rfl rfl ?_
  refine CC.seq ?_
  refine CC.region ?_
  refine LL.val (R.assign rfl rfl) rfl rfl rfl ?_
  refine LL.nilS ?_
  refine CC.seq ?_
  refine CC.seq ?_
  refine CC.region ?_
  refine LL.val (R.move rfl rfl) rfl rfl rfl ?_
  refine LL.val (R.len rfl rfl rfl rfl) rfl rfl rfl ?_
  refine LL.val (R.move rfl rfl) rfl rfl rfl ?_
  refine LL.val (R.len rfl rfl rfl rfl) rfl rfl rfl ?_
  refine LL.val (R.neF rfl rfl rfl (by omega)) rfl rfl rfl ?_
  refine LL.nilS ?_
  refine CC.no rfl ?_
  refine CC.skip ?_
  refine EE.thenN ?_
  refine CC.seq ?_
  refine CC.seq ?_
  refine CC.region ?_
  refine LL.val (R.assign rfl rfl) rfl rfl rfl ?_
  refine LL.nilS ?_
  refine CC.block ?_
  refine CC.loop (α := Nat) (fun i => [(0, .slice a1 n1 c1), (1, .slice a2 n1 c2), (5, .int .i64 (i : Int))]) (fun i W => i ≤ n1 ∧ Below w.heap.size w W ∧ l1.take i = l2.take i) (fun i => n1 - i) 0 ⟨rfl, rfl, rfl, trivial⟩ ⟨by show 0 ≤ n1; omega, q, rfl⟩ ?_
  clear q
  rintro i W ⟨hi, q, ht⟩
  show CC none Try.prog _ 26 [] (sl [(0, .slice a1 n1 c1), (1, .slice a2 n1 c2), (5, .int .i64 (i : Int))]) _ W
  by_cases hlt : i < n1
  case neg =>
    obtain rfl : i = n1 := by omega
    rw [List.take_of_length_le (by omega), List.take_of_length_le (by omega)] at ht
    rw [decide_eq_true ht]
    refine CC.seq ?_
    refine CC.seq ?_
    refine CC.region ?_
    refine LL.val (R.move rfl rfl) rfl rfl rfl ?_
    refine LL.val (R.move rfl rfl) rfl rfl rfl ?_
    refine LL.val (R.len rfl rfl rfl rfl) rfl rfl rfl ?_
    refine LL.val (R.ltF rfl rfl rfl (by omega)) rfl rfl rfl ?_
    refine LL.nilS ?_
    refine CC.no rfl ?_
    refine CC.exit ?_
    refine EE.thenX ?_
    refine EE.thenX ?_
    refine EE.inX ?_
    refine EE.thenN ?_
    refine CC.seq ?_
    refine CC.region ?_
    refine LL.val (R.assign rfl rfl) rfl rfl rfl ?_
    refine LL.nilS ?_
    refine CC.ret ?_
    refine EE.ret _ rfl rfl ?_
    exact ⟨rfl, q⟩
  obtain ⟨x, hx⟩ : ∃ x, l1[i]? = some x := ⟨_, List.getElem?_eq_getElem (by omega)⟩
  obtain ⟨y, hy⟩ : ∃ y, l2[i]? = some y := ⟨_, List.getElem?_eq_getElem (by omega)⟩
  obtain ⟨b1, o1, rfl, k1, _⟩ := (hF1 W q).one uEnc hx
  obtain ⟨b2, o2, rfl, k2, _⟩ := (hF2 W q).one uEnc hy
  have m1 : ∀ W', Below w.heap.size w W' → W'.cell? ⟨b1, o1 + i, none⟩ = some (.int .u64 (x : Int)) := fun W' b => by
    obtain ⟨_, _, e, _, cs⟩ := (hF1 W' b).one uEnc hx
    cases e
    exact cs _ rfl
  have m2 : ∀ W', Below w.heap.size w W' → W'.cell? ⟨b2, o2 + i, none⟩ = some (.int .u64 (y : Int)) := fun W' b => by
    obtain ⟨_, _, e, _, cs⟩ := (hF2 W' b).one uEnc hy
    cases e
    exact cs _ rfl
  by_cases hxy : x = y
  · refine CC.seq ?_
    refine CC.seq ?_
    refine CC.region ?_
    refine LL.val (R.move rfl rfl) rfl rfl rfl ?_
    refine LL.val (R.move rfl rfl) rfl rfl rfl ?_
    refine LL.val (R.len rfl rfl rfl rfl) rfl rfl rfl ?_
    refine LL.val (R.ltT rfl rfl rfl (by omega)) rfl rfl rfl ?_
    refine LL.nilS ?_
    refine CC.yes rfl ?_
    refine CC.skip ?_
    refine EE.thenN ?_
    refine CC.seq ?_
    refine CC.block ?_
    refine CC.seq ?_
    refine CC.quietB (by kernel_rfl) (by kernel_rfl) (fun Wc2 bc1 zc3 => ?_)
    replace q := q.trans (bc1.mono q.size)
    refine SS.val (R.move rfl rfl) rfl rfl ?_
    refine SS.val (R.move rfl rfl) rfl rfl ?_
    refine SS.val (R.index rfl rfl rfl (I.ixS1 rfl (by omega))) rfl rfl ?_
    (refine SS.val (R.load rfl rfl (I.ld1 rfl (m1 _ q))) rfl rfl ?_)
    refine SS.val (R.move rfl rfl) rfl rfl ?_
    refine SS.val (R.move rfl rfl) rfl rfl ?_
    refine SS.val (R.index rfl rfl rfl (I.ixS1 rfl (by omega))) rfl rfl ?_
    (refine SS.val (R.load rfl rfl (I.ld1 rfl (m2 _ q))) rfl rfl ?_)
    refine SS.val (R.neF rfl rfl rfl (by omega)) rfl rfl ?_
    refine SS.nilQ ?_
    refine EE.thenN ?_
    refine CC.no rfl ?_
    refine CC.skip ?_
    refine EE.inN ?_
    refine EE.thenN ?_
    refine CC.region ?_
    refine LL.val (R.move rfl rfl) rfl rfl rfl ?_
    refine LL.val (R.addNc rfl rfl rfl rfl (by omega)) rfl rfl rfl ?_
    refine LL.val (R.assign rfl rfl) rfl rfl rfl ?_
    refine LL.nil ?_
    exact EE.round (i + 1) ⟨rfl, rfl, rfl, trivial⟩ ⟨by show i + 1 ≤ n1; omega, q, by rw [List.take_add_one, List.take_add_one, hx, hy, ht, hxy]⟩ (by show n1 - (i + 1) < n1 - i; omega)
  · rw [decide_eq_false (fun e => hxy (by rw [e, hy] at hx; exact (Option.some.inj hx).symm))]
    refine CC.seq ?_
    refine CC.seq ?_
    refine CC.region ?_
    refine LL.val (R.move rfl rfl) rfl rfl rfl ?_
    refine LL.val (R.move rfl rfl) rfl rfl rfl ?_
    refine LL.val (R.len rfl rfl rfl rfl) rfl rfl rfl ?_
    refine LL.val (R.ltT rfl rfl rfl (by omega)) rfl rfl rfl ?_
    refine LL.nilS ?_
    refine CC.yes rfl ?_
    refine CC.skip ?_
    refine EE.thenN ?_
    refine CC.seq ?_
    refine CC.block ?_
    refine CC.seq ?_
    refine CC.quietB (by kernel_rfl) (by kernel_rfl) (fun Wd2 bd1 zd3 => ?_)
    replace q := q.trans (bd1.mono q.size)
    refine SS.val (R.move rfl rfl) rfl rfl ?_
    refine SS.val (R.move rfl rfl) rfl rfl ?_
    refine SS.val (R.index rfl rfl rfl (I.ixS1 rfl (by omega))) rfl rfl ?_
    (refine SS.val (R.load rfl rfl (I.ld1 rfl (m1 _ q))) rfl rfl ?_)
    refine SS.val (R.move rfl rfl) rfl rfl ?_
    refine SS.val (R.move rfl rfl) rfl rfl ?_
    refine SS.val (R.index rfl rfl rfl (I.ixS1 rfl (by omega))) rfl rfl ?_
    (refine SS.val (R.load rfl rfl (I.ld1 rfl (m2 _ q))) rfl rfl ?_)
    refine SS.val (R.neT rfl rfl rfl (by omega)) rfl rfl ?_
    refine SS.nilQ ?_
    refine EE.thenN ?_
    refine CC.yes rfl ?_
    refine CC.seq ?_
    refine CC.region ?_
    refine LL.val (R.assign rfl rfl) rfl rfl rfl ?_
    refine LL.nilS ?_
    refine CC.ret ?_
    refine EE.inR ?_
    refine EE.thenR ?_
    refine EE.thenR ?_
    refine EE.inR ?_
    refine EE.thenR ?_
    refine EE.ret _ rfl rfl ?_
    exact ⟨rfl, q⟩
theorem isame_any (a1 a2 : Option Addr) (n1 n2 c1 c2 : Nat) (l1 l2 : List Nat) (w : World) (h1 : ReadsT iE 1 w (.slice a1 n1 c1) l1) (h2 : ReadsT iE 1 w (.slice a2 n2 c2) l2) (e1 : l1.length = n1) (e2 : l2.length = n2) (hN : n1 ≤ 1048576) (hN2 : n2 ≤ 1048576) :
    Calls Try.prog 39 #[.slice a1 n1 c1, .slice a2 n2 c2] w fun e w' => e = .returned (.bool (decide (l1 = l2))) ∧ Below w.heap.size w w' := by
  have q := Below.refl w.heap.size w
  have hF1 : ∀ W, Below w.heap.size w W → ReadsT iE 1 W (.slice a1 n1 c1) l1 := fun W hb => h1.up hb
  have hF2 : ∀ W, Below w.heap.size w W → ReadsT iE 1 W (.slice a2 n2 c2) l2 := fun W hb => h2.up hb
  clear h1 h2
  by_cases hn : n1 = n2
  case neg =>
    rw [decide_eq_false fun e => hn (by rw [← e1, ← e2, e])]
    refine X.fn Try.func39 rfl (n := 26) rfl rfl ?_
    refine CC.seq ?_
    refine CC.region ?_
    refine LL.val (R.assign rfl rfl) rfl rfl rfl ?_
    refine LL.nilS ?_
    refine CC.seq ?_
    refine CC.seq ?_
    refine CC.region ?_
    refine LL.val (R.move rfl rfl) rfl rfl rfl ?_
    refine LL.val (R.len rfl rfl rfl rfl) rfl rfl rfl ?_
    refine LL.val (R.move rfl rfl) rfl rfl rfl ?_
    refine LL.val (R.len rfl rfl rfl rfl) rfl rfl rfl ?_
    refine LL.val (R.neT rfl rfl rfl (by omega)) rfl rfl rfl ?_
    refine LL.nilS ?_
    refine CC.yes rfl ?_
    refine CC.seq ?_
    refine CC.region ?_
    refine LL.val (R.assign rfl rfl) rfl rfl rfl ?_
    refine LL.nilS ?_
    refine CC.ret ?_
    refine EE.thenR ?_
    refine EE.ret _ rfl rfl ?_
    exact ⟨rfl, q⟩
  subst hn
  refine X.fn Try.func39 rfl (n := 26) rfl rfl ?_
  refine CC.seq ?_
  refine CC.region ?_
  refine LL.val (R.assign rfl rfl) rfl rfl rfl ?_
  refine LL.nilS ?_
  refine CC.seq ?_
  refine CC.seq ?_
  refine CC.region ?_
  refine LL.val (R.move rfl rfl) rfl rfl rfl ?_
  refine LL.val (R.len rfl rfl rfl rfl) rfl rfl rfl ?_
  refine LL.val (R.move rfl rfl) rfl rfl rfl ?_
  refine LL.val (R.len rfl rfl rfl rfl) rfl rfl rfl ?_
  refine LL.val (R.neF rfl rfl rfl (by omega)) rfl rfl rfl ?_
  refine LL.nilS ?_
  refine CC.no rfl ?_
  refine CC.skip ?_
  refine EE.thenN ?_
  refine CC.seq ?_
  refine CC.seq ?_
  refine CC.region ?_
  refine LL.val (R.assign rfl rfl) rfl rfl rfl ?_
  refine LL.nilS ?_
  refine CC.block ?_
  refine CC.loop (α := Nat) (fun i => [(0, .slice a1 n1 c1), (1, .slice a2 n1 c2), (5, .int .i64 (i : Int))]) (fun i W => i ≤ n1 ∧ Below w.heap.size w W ∧ l1.take i = l2.take i) (fun i => n1 - i) 0 ⟨rfl, rfl, rfl, trivial⟩ ⟨by show 0 ≤ n1; omega, q, rfl⟩ ?_
  clear q
  rintro i W ⟨hi, q, ht⟩
  show CC none Try.prog _ 26 [] (sl [(0, .slice a1 n1 c1), (1, .slice a2 n1 c2), (5, .int .i64 (i : Int))]) _ W
  by_cases hlt : i < n1
  case neg =>
    obtain rfl : i = n1 := by omega
    rw [List.take_of_length_le (by omega), List.take_of_length_le (by omega)] at ht
    rw [decide_eq_true ht]
    refine CC.seq ?_
    refine CC.seq ?_
    refine CC.region ?_
    refine LL.val (R.move rfl rfl) rfl rfl rfl ?_
    refine LL.val (R.move rfl rfl) rfl rfl rfl ?_
    refine LL.val (R.len rfl rfl rfl rfl) rfl rfl rfl ?_
    refine LL.val (R.ltF rfl rfl rfl (by omega)) rfl rfl rfl ?_
    refine LL.nilS ?_
    refine CC.no rfl ?_
    refine CC.exit ?_
    refine EE.thenX ?_
    refine EE.thenX ?_
    refine EE.inX ?_
    refine EE.thenN ?_
    refine CC.seq ?_
    refine CC.region ?_
    refine LL.val (R.assign rfl rfl) rfl rfl rfl ?_
    refine LL.nilS ?_
    refine CC.ret ?_
    refine EE.ret _ rfl rfl ?_
    exact ⟨rfl, q⟩
  obtain ⟨x, hx⟩ : ∃ x, l1[i]? = some x := ⟨_, List.getElem?_eq_getElem (by omega)⟩
  obtain ⟨y, hy⟩ : ∃ y, l2[i]? = some y := ⟨_, List.getElem?_eq_getElem (by omega)⟩
  obtain ⟨b1, o1, rfl, k1, _⟩ := (hF1 W q).one iEnc hx
  obtain ⟨b2, o2, rfl, k2, _⟩ := (hF2 W q).one iEnc hy
  have m1 : ∀ W', Below w.heap.size w W' → W'.cell? ⟨b1, o1 + i, none⟩ = some (.int .i64 (x : Int)) := fun W' b => by
    obtain ⟨_, _, e, _, cs⟩ := (hF1 W' b).one iEnc hx
    cases e
    exact cs _ rfl
  have m2 : ∀ W', Below w.heap.size w W' → W'.cell? ⟨b2, o2 + i, none⟩ = some (.int .i64 (y : Int)) := fun W' b => by
    obtain ⟨_, _, e, _, cs⟩ := (hF2 W' b).one iEnc hy
    cases e
    exact cs _ rfl
  by_cases hxy : x = y
  · refine CC.seq ?_
    refine CC.seq ?_
    refine CC.region ?_
    refine LL.val (R.move rfl rfl) rfl rfl rfl ?_
    refine LL.val (R.move rfl rfl) rfl rfl rfl ?_
    refine LL.val (R.len rfl rfl rfl rfl) rfl rfl rfl ?_
    refine LL.val (R.ltT rfl rfl rfl (by omega)) rfl rfl rfl ?_
    refine LL.nilS ?_
    refine CC.yes rfl ?_
    refine CC.skip ?_
    refine EE.thenN ?_
    refine CC.seq ?_
    refine CC.block ?_
    refine CC.seq ?_
    refine CC.quietB (by kernel_rfl) (by kernel_rfl) (fun Wc2 bc1 zc3 => ?_)
    replace q := q.trans (bc1.mono q.size)
    refine SS.val (R.move rfl rfl) rfl rfl ?_
    refine SS.val (R.move rfl rfl) rfl rfl ?_
    refine SS.val (R.index rfl rfl rfl (I.ixS1 rfl (by omega))) rfl rfl ?_
    (refine SS.val (R.load rfl rfl (I.ld1 rfl (m1 _ q))) rfl rfl ?_)
    refine SS.val (R.move rfl rfl) rfl rfl ?_
    refine SS.val (R.move rfl rfl) rfl rfl ?_
    refine SS.val (R.index rfl rfl rfl (I.ixS1 rfl (by omega))) rfl rfl ?_
    (refine SS.val (R.load rfl rfl (I.ld1 rfl (m2 _ q))) rfl rfl ?_)
    refine SS.val (R.neF rfl rfl rfl (by omega)) rfl rfl ?_
    refine SS.nilQ ?_
    refine EE.thenN ?_
    refine CC.no rfl ?_
    refine CC.skip ?_
    refine EE.inN ?_
    refine EE.thenN ?_
    refine CC.region ?_
    refine LL.val (R.move rfl rfl) rfl rfl rfl ?_
    refine LL.val (R.addNc rfl rfl rfl rfl (by omega)) rfl rfl rfl ?_
    refine LL.val (R.assign rfl rfl) rfl rfl rfl ?_
    refine LL.nil ?_
    exact EE.round (i + 1) ⟨rfl, rfl, rfl, trivial⟩ ⟨by show i + 1 ≤ n1; omega, q, by rw [List.take_add_one, List.take_add_one, hx, hy, ht, hxy]⟩ (by show n1 - (i + 1) < n1 - i; omega)
  · rw [decide_eq_false (fun e => hxy (by rw [e, hy] at hx; exact (Option.some.inj hx).symm))]
    refine CC.seq ?_
    refine CC.seq ?_
    refine CC.region ?_
    refine LL.val (R.move rfl rfl) rfl rfl rfl ?_
    refine LL.val (R.move rfl rfl) rfl rfl rfl ?_
    refine LL.val (R.len rfl rfl rfl rfl) rfl rfl rfl ?_
    refine LL.val (R.ltT rfl rfl rfl (by omega)) rfl rfl rfl ?_
    refine LL.nilS ?_
    refine CC.yes rfl ?_
    refine CC.skip ?_
    refine EE.thenN ?_
    refine CC.seq ?_
    refine CC.block ?_
    refine CC.seq ?_
    refine CC.quietB (by kernel_rfl) (by kernel_rfl) (fun Wd2 bd1 zd3 => ?_)
    replace q := q.trans (bd1.mono q.size)
    refine SS.val (R.move rfl rfl) rfl rfl ?_
    refine SS.val (R.move rfl rfl) rfl rfl ?_
    refine SS.val (R.index rfl rfl rfl (I.ixS1 rfl (by omega))) rfl rfl ?_
    (refine SS.val (R.load rfl rfl (I.ld1 rfl (m1 _ q))) rfl rfl ?_)
    refine SS.val (R.move rfl rfl) rfl rfl ?_
    refine SS.val (R.move rfl rfl) rfl rfl ?_
    refine SS.val (R.index rfl rfl rfl (I.ixS1 rfl (by omega))) rfl rfl ?_
    (refine SS.val (R.load rfl rfl (I.ld1 rfl (m2 _ q))) rfl rfl ?_)
    refine SS.val (R.neT rfl rfl rfl (by omega)) rfl rfl ?_
    refine SS.nilQ ?_
    refine EE.thenN ?_
    refine CC.yes rfl ?_
    refine CC.seq ?_
    refine CC.region ?_
    refine LL.val (R.assign rfl rfl) rfl rfl rfl ?_
    refine LL.nilS ?_
    refine CC.ret ?_
    refine EE.inR ?_
    refine EE.thenR ?_
    refine EE.thenR ?_
    refine EE.inR ?_
    refine EE.thenR ?_
    refine EE.ret _ rfl rfl ?_
    exact ⟨rfl, q⟩
--C law07_num | num_any _ @w | S
theorem num_any (a : Int) (w : World) : Calls Try.prog 13 #[.int .i64 a] w fun e w' => e = .returned (.int .i64 a) ∧ w = w' := by
  refine X.fn Try.func13 rfl (n := 4) rfl rfl ?_
  refine CC.seq ?_
  refine CC.region ?_
  refine LL.val (R.assign rfl rfl) rfl rfl rfl ?_
  refine LL.nilS ?_
  refine CC.seq ?_
  refine CC.region ?_
  refine LL.val (R.move rfl rfl) rfl rfl rfl ?_
  refine LL.val (R.assign rfl rfl) rfl rfl rfl ?_
  refine LL.nilS ?_
  refine CC.ret ?_
  refine EE.ret _ rfl rfl ?_
  exact ⟨rfl, rfl⟩
/-- Equal lists are told the same. -/
theorem dsame_T (v1 v2 : Value) (l : List Nat) (w : World) (h1 : ReadsT uE 1 w v1 l) (h2 : ReadsT uE 1 w v2 l) (hN : l.length ≤ 1048576) : Calls Try.prog 37 #[v1, v2] w fun e w' => e = .returned (.bool true) ∧ Below w.heap.size w w' := by
  obtain ⟨a1, c1, rfl, _⟩ := h1.form rfl
  obtain ⟨a2, c2, rfl, _⟩ := h2.form rfl
  have := dsame_any a1 a2 _ _ c1 c2 l l w h1 h2 rfl rfl hN hN
  rwa [decide_eq_true rfl] at this
theorem isame_T (v1 v2 : Value) (l : List Nat) (w : World) (h1 : ReadsT iE 1 w v1 l) (h2 : ReadsT iE 1 w v2 l) (hN : l.length ≤ 1048576) : Calls Try.prog 39 #[v1, v2] w fun e w' => e = .returned (.bool true) ∧ Below w.heap.size w w' := by
  obtain ⟨a1, c1, rfl, _⟩ := h1.form rfl
  obtain ⟨a2, c2, rfl, _⟩ := h2.form rfl
  have := isame_any a1 a2 _ _ c1 c2 l l w h1 h2 rfl rfl hN hN
  rwa [decide_eq_true rfl] at this
theorem is_any (m gn gl qb N g cap : Nat) {s : List Cl} (w : World) (M : Mem w m gn gl qb N s) (hv : ReadsT cE 25 w (.slice (some ⟨g, 0, none⟩) N cap) s) : Calls Try.prog 14 #[.pointer (some ⟨m, 0, none⟩), .slice (some ⟨g, 0, none⟩) N cap] w fun e w' => e = .returned (.bool true) ∧ Below w.heap.size w w' := by
  have q := Below.refl w.heap.size w
  have h0 := M.pos
  have hN := M.le
  have hl := M.len
  have hol := opS_len M
  have hwl := wdS_len (fun c => c.1) s
  have hwl2 := wdS_len (fun c => c.2.1) s
  have hvF : ∀ W, Below w.heap.size w W → ReadsT cE 25 W (.slice (some ⟨g, 0, none⟩) N cap) s := fun W b => hv.up b
  have hMF : ∀ W, Below w.heap.size w W → Mem W m gn gl qb N s := fun W b => M.up b
  clear hv M
  refine X.fn Try.func14 rfl (n := 32) rfl rfl ?_
  refine CC.seq ?_
  refine CC.region ?_
  refine LL.val (R.assign rfl rfl) rfl rfl rfl ?_
  refine LL.nilS ?_
  refine CC.seq ?_
  refine CC.region ?_
  refine LL.val (R.move rfl rfl) rfl rfl rfl ?_
  refine LL.call (R.call rfl rfl rfl) rfl rfl rfl (len_any m gn gl qb N _ (hMF _ q)) ?_
  rintro e W' ⟨rfl, rfl⟩
  refine ⟨_, rfl, ?_⟩
  refine LL.val (R.move rfl rfl) rfl rfl rfl ?_
  refine LL.val (R.len rfl rfl rfl rfl) rfl rfl rfl ?_
  refine LL.val (R.mulcN rfl rfl rfl rfl (by omega)) rfl rfl rfl ?_
  refine LL.val (R.eqT rfl rfl rfl (by omega)) rfl rfl rfl ?_
  refine LL.val (R.move rfl rfl) rfl rfl rfl ?_
  refine LL.val (R.move rfl rfl) rfl rfl rfl ?_
  (refine LL.call (R.call rfl rfl rfl) rfl rfl rfl (image_any m gn gl qb N _ (hMF _ q)) ?_; rintro e W508 ⟨v1, rfl, i1, b505⟩; refine ⟨_, rfl, ?_⟩)
  have zb505 := b505.size
  replace q := q.trans (b505.mono q.size)
  refine LL.val (R.move rfl rfl) rfl rfl rfl ?_
  (refine LL.call (R.call rfl rfl rfl) rfl rfl rfl (dwords_any _ _ (.inl ⟨rfl, rfl⟩) s g N cap _ (hvF _ q) hl hN) ?_; rintro e W578 ⟨v2, rfl, i2, b575⟩; refine ⟨_, rfl, ?_⟩; replace i1 := i1.up b575)
  have zb575 := b575.size
  replace b505 := b505.trans (b575.mono b505.size)
  replace q := q.trans (b575.mono q.size)
  (refine LL.call (R.call rfl rfl rfl) rfl rfl rfl (dsame_T _ _ _ _ i1 i2 (by omega)) ?_; rintro e W599 ⟨rfl, b596⟩; refine ⟨_, rfl, ?_⟩; clear i1 i2)
  have zb596 := b596.size
  replace b575 := b575.trans (b596.mono b575.size)
  replace b505 := b505.trans (b596.mono b505.size)
  replace q := q.trans (b596.mono q.size)
  refine LL.val (R.pick rfl rfl rfl) rfl rfl rfl ?_
  refine LL.val (R.move rfl rfl) rfl rfl rfl ?_
  refine LL.val (R.move rfl rfl) rfl rfl rfl ?_
  (refine LL.call (R.call rfl rfl rfl) rfl rfl rfl (lasting_any m gn gl qb N _ (hMF _ q)) ?_; rintro e W795 ⟨v3, rfl, i1, b792⟩; refine ⟨_, rfl, ?_⟩)
  have zb792 := b792.size
  replace b596 := b596.trans (b792.mono b596.size)
  replace b575 := b575.trans (b792.mono b575.size)
  replace b505 := b505.trans (b792.mono b505.size)
  replace q := q.trans (b792.mono q.size)
  refine LL.val (R.move rfl rfl) rfl rfl rfl ?_
  (refine LL.call (R.call rfl rfl rfl) rfl rfl rfl (dwords_any _ _ (.inr ⟨rfl, rfl⟩) s g N cap _ (hvF _ q) hl hN) ?_; rintro e W886 ⟨v4, rfl, i2, b883⟩; refine ⟨_, rfl, ?_⟩; replace i1 := i1.up b883)
  have zb883 := b883.size
  replace b792 := b792.trans (b883.mono b792.size)
  replace b596 := b596.trans (b883.mono b596.size)
  replace b575 := b575.trans (b883.mono b575.size)
  replace b505 := b505.trans (b883.mono b505.size)
  replace q := q.trans (b883.mono q.size)
  (refine LL.call (R.call rfl rfl rfl) rfl rfl rfl (dsame_T _ _ _ _ i1 i2 (by omega)) ?_; rintro e W907 ⟨rfl, b904⟩; refine ⟨_, rfl, ?_⟩; clear i1 i2)
  have zb904 := b904.size
  replace b883 := b883.trans (b904.mono b883.size)
  replace b792 := b792.trans (b904.mono b792.size)
  replace b596 := b596.trans (b904.mono b596.size)
  replace b575 := b575.trans (b904.mono b575.size)
  replace b505 := b505.trans (b904.mono b505.size)
  replace q := q.trans (b904.mono q.size)
  refine LL.val (R.pick rfl rfl rfl) rfl rfl rfl ?_
  refine LL.val (R.move rfl rfl) rfl rfl rfl ?_
  refine LL.val (R.move rfl rfl) rfl rfl rfl ?_
  (refine LL.call (R.call rfl rfl rfl) rfl rfl rfl (opens_M m gn gl qb N _ (hMF _ q)) ?_; rintro e W1117 ⟨v5, rfl, i3, b1114⟩; refine ⟨_, rfl, ?_⟩; replace i3 := i3.reads iEnc)
  have zb1114 := b1114.size
  replace b904 := b904.trans (b1114.mono b904.size)
  replace b883 := b883.trans (b1114.mono b883.size)
  replace b792 := b792.trans (b1114.mono b792.size)
  replace b596 := b596.trans (b1114.mono b596.size)
  replace b575 := b575.trans (b1114.mono b575.size)
  replace b505 := b505.trans (b1114.mono b505.size)
  replace q := q.trans (b1114.mono q.size)
  refine LL.val (R.move rfl rfl) rfl rfl rfl ?_
  (refine LL.call (R.call rfl rfl rfl) rfl rfl rfl (dopen_any s g N cap _ (hvF _ q) hl hN) ?_; rintro e W1222 ⟨v6, rfl, i4, b1219⟩; refine ⟨_, rfl, ?_⟩; replace i4 := i4.reads iEnc; replace i3 := i3.up b1219)
  have zb1219 := b1219.size
  replace b1114 := b1114.trans (b1219.mono b1114.size)
  replace b904 := b904.trans (b1219.mono b904.size)
  replace b883 := b883.trans (b1219.mono b883.size)
  replace b792 := b792.trans (b1219.mono b792.size)
  replace b596 := b596.trans (b1219.mono b596.size)
  replace b575 := b575.trans (b1219.mono b575.size)
  replace b505 := b505.trans (b1219.mono b505.size)
  replace q := q.trans (b1219.mono q.size)
  (refine LL.call (R.call rfl rfl rfl) rfl rfl rfl (isame_T _ _ _ _ i3 i4 (by omega)) ?_; rintro e W1278 ⟨rfl, b1275⟩; refine ⟨_, rfl, ?_⟩; clear i3 i4)
  have zb1275 := b1275.size
  replace b1219 := b1219.trans (b1275.mono b1219.size)
  replace b1114 := b1114.trans (b1275.mono b1114.size)
  replace b904 := b904.trans (b1275.mono b904.size)
  replace b883 := b883.trans (b1275.mono b883.size)
  replace b792 := b792.trans (b1275.mono b792.size)
  replace b596 := b596.trans (b1275.mono b596.size)
  replace b575 := b575.trans (b1275.mono b575.size)
  replace b505 := b505.trans (b1275.mono b505.size)
  replace q := q.trans (b1275.mono q.size)
  refine LL.val (R.pick rfl rfl rfl) rfl rfl rfl ?_
  refine LL.val (R.assign rfl rfl) rfl rfl rfl ?_
  refine LL.nilS ?_
  refine CC.ret ?_
  refine EE.ret _ rfl rfl ?_
  exact ⟨rfl, q⟩
end Go.Proofs.Ytajfffoaebjnlaa
