/- What the tool that writes walks takes in regions that draw their order and make memory: steps in any order. Over any program. -/
import Derived.Test.YtajfffoaebjnlaaGrowR
import Derived.Test.YtajfffoaebjnlaaFree
namespace Go.Proofs.Ytajfffoaebjnlaa
set_option linter.unusedVariables false
set_option linter.unusedSimpArgs false
open Go.RowKit Go.Shelf
section
variable {P : Program} {ops : Array Oper} {l : List Oper} {w w' : World} {o : Oper} {n i f : Nat} {D : List Deferred} {M : Slots} {v : Value} {r : Option Nat} {Q : Exit → Act → World → Prop} {ok : World → Prop} {listed : Array Bool} {t : TypeId} {x y : Operand} {K : Slots → World → Prop}
theorem CC.freeZ {id : Nat} (K : World → Nat → Prop) (hm : P.follows .mixedOrders = true) (hB : selB l = true)
    (h : ∀ w1, Below w.heap.size w w1 → w1.heap.size = w.heap.size → AA P l.toArray (fun W => Kept (K w1) w1 W) Q n D M l.length (Array.replicate l.length false) w1) : CC r P Q n D M (.region id l.toArray true) w :=
  CC.free _ hm hB (h _ below_drew rfl)
theorem fzRow {K : Nat → Prop} {g e : Nat} {xs : List Value} (h : RowL w g e xs) (hg : K g) : ∀ w', Kept K w w' → RowL w' g e xs := fun _ hk => h.kept hk hg
theorem fzCell {K : Nat → Prop} {b a : Nat} {v : Value} (h : w.cell? ⟨b, a, none⟩ = some v) (hb : K b) : ∀ w', Kept K w w' → w'.cell? ⟨b, a, none⟩ = some v := fun _ hk => (World.cell?_of_block (hk.block b hb)).trans h
theorem AA.vsplit {p : Prop} [Decidable p] (i : Nat) (hi : ops[i]? = some o) (hw : ok w) (hB : rfB ops listed i = true) (ht : ∀ w', ok w' → p → Runs P n D M o w' (.value (.bool true)) w') (hf : ∀ w', ok w' → ¬p → Runs P n D M o w' (.value (.bool false)) w') (hd : dstB n o.dst = true) (hg : wantB ops M o.guard = some true)
    (k1 : p → AA P ops ok Q n D (putM M o.dst (.bool true)) f (listed.setIfInBounds i true) w) (k2 : ¬p → AA P ops ok Q n D (putM M o.dst (.bool false)) f (listed.setIfInBounds i true) w) : AA P ops ok Q n D M (f + 1) listed w := by
  by_cases h : p
  · exact AA.pure i hi hw hB (fun w' b => ht w' b h) hd hg (k1 h)
  · exact AA.pure i hi hw hB (fun w' b => hf w' b h) hd hg (k2 h)
theorem AA.pureCDT {p : Prop} [Decidable p] {g : FuncId} {args : Array Value} (i : Nat) (hi : ops[i]? = some o) (hw : ok w) (hB : rfB ops listed i = true) (hr : ∀ w', Runs P n D M o w' (.enter g args) w') (hc : ∀ w', ok w' → Calls P g args w' fun e w'' => e = .returned (.bool (decide p)) ∧ w' = w'') (hd : dstB n o.dst = true) (hg : wantB ops M o.guard = some true) (h : p)
    (k : AA P ops ok Q n D (putM M o.dst (.bool true)) f (listed.setIfInBounds i true) w) : AA P ops ok Q n D M (f + 1) listed w := by
  rw [decide_eq_true h] at hc
  exact AA.pureC i hi hw hB hr hc hd hg k
theorem AA.pureCDF {p : Prop} [Decidable p] {g : FuncId} {args : Array Value} (i : Nat) (hi : ops[i]? = some o) (hw : ok w) (hB : rfB ops listed i = true) (hr : ∀ w', Runs P n D M o w' (.enter g args) w') (hc : ∀ w', ok w' → Calls P g args w' fun e w'' => e = .returned (.bool (decide p)) ∧ w' = w'') (hd : dstB n o.dst = true) (hg : wantB ops M o.guard = some true) (h : ¬p)
    (k : AA P ops ok Q n D (putM M o.dst (.bool false)) f (listed.setIfInBounds i true) w) : AA P ops ok Q n D M (f + 1) listed w := by
  rw [decide_eq_false h] at hc
  exact AA.pureC i hi hw hB hr hc hd hg k
theorem AA.pureCD {p : Prop} [Decidable p] {g : FuncId} {args : Array Value} (i : Nat) (hi : ops[i]? = some o) (hw : ok w) (hB : rfB ops listed i = true) (hr : ∀ w', Runs P n D M o w' (.enter g args) w') (hc : ∀ w', ok w' → Calls P g args w' fun e w'' => e = .returned (.bool (decide p)) ∧ w' = w'') (hd : dstB n o.dst = true) (hg : wantB ops M o.guard = some true)
    (k1 : p → AA P ops ok Q n D (putM M o.dst (.bool true)) f (listed.setIfInBounds i true) w) (k2 : ¬p → AA P ops ok Q n D (putM M o.dst (.bool false)) f (listed.setIfInBounds i true) w) : AA P ops ok Q n D M (f + 1) listed w := by
  by_cases h : p
  · exact AA.pureCDT i hi hw hB hr hc hd hg h (k1 h)
  · exact AA.pureCDF i hi hw hB hr hc hd hg h (k2 h)
theorem AA.three (i j k : Nat) (hr : Region.ready .any ops listed = [i, j, k]) (k1 : SR P ops ok i (fun M w => AA P ops ok Q n D M f (listed.setIfInBounds i true) w) n D M w) (k2 : SR P ops ok j (fun M w => AA P ops ok Q n D M f (listed.setIfInBounds j true) w) n D M w) (k3 : SR P ops ok k (fun M w => AA P ops ok Q n D M f (listed.setIfInBounds k true) w) n D M w) : AA P ops ok Q n D M (f + 1) listed w :=
  .fork [i, j, k] hr (by simp) (fun m hm => by simp at hm; rcases hm with rfl | rfl | rfl; exact k1; exact k2; exact k3)
theorem ZR.callBT {p : Prop} [Decidable p] {g : FuncId} {args : Array Value} (hi : ops[i]? = some o) (hr : Runs P n D M o w (.enter g args) w) (hd : dstB n o.dst = true) (hg : wantB ops M o.guard = some true) (hc : Calls P g args w fun e w' => e = .returned (.bool (decide p)) ∧ Below w.heap.size w w') (h : p) (k : ∀ w', Below w.heap.size w w' → ok w' ∧ K (putM M o.dst (.bool true)) w') : SR P ops ok i K n D M w :=
  SR.call hi hr hd hg hc fun _ w' ⟨he, hw⟩ => ⟨_, by rw [he, decide_eq_true h], (k w' hw).1, (k w' hw).2⟩
theorem ZR.callBF {p : Prop} [Decidable p] {g : FuncId} {args : Array Value} (hi : ops[i]? = some o) (hr : Runs P n D M o w (.enter g args) w) (hd : dstB n o.dst = true) (hg : wantB ops M o.guard = some true) (hc : Calls P g args w fun e w' => e = .returned (.bool (decide p)) ∧ Below w.heap.size w w') (h : ¬p) (k : ∀ w', Below w.heap.size w w' → ok w' ∧ K (putM M o.dst (.bool false)) w') : SR P ops ok i K n D M w :=
  SR.call hi hr hd hg hc fun _ w' ⟨he, hw⟩ => ⟨_, by rw [he, decide_eq_false h], (k w' hw).1, (k w' hw).2⟩
theorem ZR.alloc (cs : List Value) (hi : ops[i]? = some o) (ho : o.op = .alloc t) (hz : zeroB P t = some v) (hcs : v.cells = cs.toArray) (hd : dstB n o.dst = true) (hg : wantB ops M o.guard = some true)
    (c : ∀ w1 g, g = w.heap.size → RowL w1 g t cs → w1.heap.size = g + 1 → Below w.heap.size w w1 → ok w1 ∧ K (putM M o.dst (.pointer (some ⟨g, 0, none⟩))) w1) : SR P ops ok i K n D M w :=
  have h := c _ _ rfl (RowL.new w t cs) (by simp) (Below.alloc0 w _)
  SR.val hi (R.alloc ho (run_alloc hz hcs)) hd hg h.1 h.2
theorem ZR.box (cs : List Value) (hi : ops[i]? = some o) (ho : o.op = .box t x) (hx : evM M x = some v) (hcs : v.cells = cs.toArray) (hd : dstB n o.dst = true) (hg : wantB ops M o.guard = some true)
    (c : ∀ w1 g, g = w.heap.size → RowL w1 g t cs → w1.heap.size = g + 1 → Below w.heap.size w w1 → ok w1 ∧ K (putM M o.dst (.pointer (some ⟨g, 0, none⟩))) w1) : SR P ops ok i K n D M w :=
  have h := c _ _ rfl (RowL.new w t cs) (by simp) (Below.alloc0 w _)
  SR.val hi (R.box ho hx (run_box hcs)) hd hg h.1 h.2
theorem ZR.lit {e k : Nat} {ps : Array (Nat × Operand)} {vs : List (Nat × Value)} (cs : List Value) (len : Nat) (hi : ops[i]? = some o) (ho : o.op = .buildSlice t k ps) (hx : evpM M ps.toList = some vs) (hr : ∀ w, (Instr.buildSlice t k vs.toArray).run P w = .ok (.slice (some ⟨w.heap.size, 0, none⟩) len len) (w.alloc (.cells cs.toArray e))) (hd : dstB n o.dst = true) (hg : wantB ops M o.guard = some true)
    (c : ∀ w1 g, g = w.heap.size → RowL w1 g e cs → w1.heap.size = g + 1 → Below w.heap.size w w1 → ok w1 ∧ K (putM M o.dst (.slice (some ⟨g, 0, none⟩) len len)) w1) : SR P ops ok i K n D M w :=
  have h := c _ _ rfl (RowL.new w e cs) (by simp) (Below.alloc0 w _)
  SR.val hi (R.buildSlice ho hx (hr w)) hd hg h.1 h.2
theorem ZR.store {g off e : Nat} {xs : List Value} (hi : ops[i]? = some o) (ho : o.op = .store t x y) (hx : evM M x = some (.pointer (some ⟨g, off, none⟩))) (hy : evM M y = some v) (hz : szB P t = some 1) (hr : RowL w g e xs) (hl : off < xs.length) (h1 : v.oneCell' = true) (hcs : v.cells = #[v]) (hd : o.dst = none) (hg : wantB ops M o.guard = some true)
    (c : ∀ w1, RowL w1 g e (xs.set off v) → w.grownBy w1 (some g) → w1.heap.size = w.heap.size → ok w1 ∧ K M w1) : SR P ops ok i K n D M w := SR.mk fun K' hK a F => by
  have h := c _ (hr.set off v) (grown_set w _ v) (by simp [World.setCell])
  unfold stepR
  simp only [hi]
  rw [if_pos (F.want hg)]
  refine .inr (.inl ⟨_, R.store ho hx hy (I.st1R hz hr hl h1 hcs) a F, h.1, ?_⟩)
  rw [hd]
  exact hK _ _ h.2 _ F
theorem ZR.storeN {vs : List Value} {g off e : Nat} {xs : List Value} (hi : ops[i]? = some o) (ho : o.op = .store t x y) (hx : evM M x = some (.pointer (some ⟨g, off, none⟩))) (hy : evM M y = some (.agg vs.toArray)) (hz : szB P t = some vs.length) (hr : RowL w g e xs) (hl : off + vs.length ≤ xs.length) (h1 : ∀ u ∈ vs, u.oneCell' = true) (hd : o.dst = none) (hg : wantB ops M o.guard = some true)
    (c : ∀ w1, RowL w1 g e (xs.take off ++ vs ++ xs.drop (off + vs.length)) → w.grownBy w1 (some g) → w1.heap.size = w.heap.size → ok w1 ∧ K M w1) : SR P ops ok i K n D M w := SR.mk fun K' hK a F => by
  obtain ⟨w', hrun, hrow, hgr, hsz⟩ := I.stN (t := t) hz hr hl h1
  have h := c w' hrow hgr hsz
  unfold stepR
  simp only [hi]
  rw [if_pos (F.want hg)]
  refine .inr (.inl ⟨_, R.store ho hx hy hrun a F, h.1, ?_⟩)
  rw [hd]
  exact hK _ _ h.2 _ F
theorem EE.weak {e : Exit} {L : List (Nat × Value)} (h : EE Q n D (sl L) e w) (hL : Fits M L) : EE Q n D M e w := EE.mk fun a F => h.h a (F.keep L hL)
/-- Orders that meet behind the region: what is known there. -/
theorem CC.join {c : Code} (F : List (Nat × Value) → World → Prop) (h : (∀ l w', F l w' → EE Q n D (sl l) .normal w') → CC r P Q n D M c w) (rest : ∀ l w', F l w' → EE Q n D (sl l) .normal w') : CC r P Q n D M c w := h rest
/-- A write into another block. -/
theorem Reads.gr {g b off len cap : Nat} {xs : List Value} (h : Reads w (.slice (some ⟨b, off, none⟩) len cap) xs) (hg : w.grownBy w' (some g)) (hne : b ≠ g) : Reads w' (.slice (some ⟨b, off, none⟩) len cap) xs := by
  obtain ⟨a, c, e, hc, hr⟩ := h
  refine ⟨a, c, e, hc, fun hx => ?_⟩
  obtain ⟨b', off', ea, hb, hcell⟩ := hr hx
  simp only [Value.slice.injEq] at e
  rw [← e.1] at ea
  simp only [Option.some.injEq, Addr.mk.injEq] at ea
  obtain ⟨rfl, rfl, _⟩ := ea
  refine ⟨b, off, by rw [← e.1], Nat.lt_of_lt_of_le hb hg.size, fun j hj => ?_⟩
  rw [← hcell j hj]
  exact World.cell?_of_block (hg.block b hb (by simpa using hne))
end
end Go.Proofs.Ytajfffoaebjnlaa
