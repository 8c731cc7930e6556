/- What the statements' walks use: FreeZ, MapZ, SeqZ, Grow, Sl, TWalk, OwnZ, EqS, Gw, Wk0, Wk1, Wk2, Wk3, Wk4, Wk5. -/
import Derived.Deep.RegionLawGrows
import Derived.Deep.RegionWith
import Derived.Tactics
import Derived.Tactics2
import Derived.ChangeKeysEq
import Derived.Laws.StructEq
import Derived.Test.YtbbddpnjglijdaaDoorWha
import Derived.Test.YtbbddpnjglijdaaDoorWhc
/- What the tool that writes walks takes in regions that draw their order and make memory: steps in any order. Over any program. -/
namespace Go.Proofs.YtbbddpnjglijdaaDoor
set_option linter.unusedVariables false
set_option linter.unusedSimpArgs false
open Go.RowKit Go.Shelf
section
variable {P : Program} {ops : Array Oper} {l : List Oper} {w w' : World} {o : Oper} {n i f : Nat} {D : List Deferred} {M : Slots} {v : Value} {r : Option Nat} {Q : Exit → Act → World → Prop} {ok : World → Prop} {listed : Array Bool} {t : TypeId} {x y : Operand} {K : Slots → World → Prop}
theorem CC.freeZ {id : Nat} (K : World → Nat → Prop) (hm : P.follows .mixedOrders = true) (hB : selB l = true)
    (h : ∀ w1, Below w.heap.size w w1 → w1.heap.size = w.heap.size → AA P l.toArray (fun W => Kept (K w1) w1 W) Q n D M l.length (Array.replicate l.length false) w1) : CC r P Q n D M (.region id l.toArray true) w :=
  CC.free _ hm hB (h _ below_drew rfl)
theorem fzRow {K : Nat → Prop} {g e : Nat} {xs : List Value} (h : RowL w g e xs) (hg : K g) : ∀ w', Kept K w w' → RowL w' g e xs := fun _ hk => h.kept hk hg
theorem AA.vsplit {p : Prop} [Decidable p] (i : Nat) (hi : ops[i]? = some o) (hw : ok w) (hB : rfB ops listed i = true) (ht : ∀ w', ok w' → p → Runs P n D M o w' (.value (.bool true)) w') (hf : ∀ w', ok w' → ¬p → Runs P n D M o w' (.value (.bool false)) w') (hd : dstB n o.dst = true) (hg : wantB ops M o.guard = some true)
    (k1 : p → AA P ops ok Q n D (putM M o.dst (.bool true)) f (listed.setIfInBounds i true) w) (k2 : ¬p → AA P ops ok Q n D (putM M o.dst (.bool false)) f (listed.setIfInBounds i true) w) : AA P ops ok Q n D M (f + 1) listed w := by
  by_cases h : p
  · exact AA.pure i hi hw hB (fun w' b => ht w' b h) hd hg (k1 h)
  · exact AA.pure i hi hw hB (fun w' b => hf w' b h) hd hg (k2 h)
theorem ZR.alloc (cs : List Value) (hi : ops[i]? = some o) (ho : o.op = .alloc t) (hz : zeroB P t = some v) (hcs : v.cells = cs.toArray) (hd : dstB n o.dst = true) (hg : wantB ops M o.guard = some true)
    (c : ∀ w1 g, g = w.heap.size → RowL w1 g t cs → w1.heap.size = g + 1 → Below w.heap.size w w1 → ok w1 ∧ K (putM M o.dst (.pointer (some ⟨g, 0, none⟩))) w1) : SR P ops ok i K n D M w :=
  have h := c _ _ rfl (RowL.new w t cs) (by simp) (Below.alloc0 w _)
  SR.val hi (R.alloc ho (run_alloc hz hcs)) hd hg h.1 h.2
theorem ZR.box (cs : List Value) (hi : ops[i]? = some o) (ho : o.op = .box t x) (hx : evM M x = some v) (hcs : v.cells = cs.toArray) (hd : dstB n o.dst = true) (hg : wantB ops M o.guard = some true)
    (c : ∀ w1 g, g = w.heap.size → RowL w1 g t cs → w1.heap.size = g + 1 → Below w.heap.size w w1 → ok w1 ∧ K (putM M o.dst (.pointer (some ⟨g, 0, none⟩))) w1) : SR P ops ok i K n D M w :=
  have h := c _ _ rfl (RowL.new w t cs) (by simp) (Below.alloc0 w _)
  SR.val hi (R.box ho hx (run_box hcs)) hd hg h.1 h.2
theorem ZR.lit {e k : Nat} {ps : Array (Nat × Operand)} {vs : List (Nat × Value)} (cs : List Value) (len : Nat) (hi : ops[i]? = some o) (ho : o.op = .buildSlice t k ps) (hx : evpM M ps.toList = some vs) (hr : ∀ w, (Instr.buildSlice t k vs.toArray).run P w = .ok (.slice (some ⟨w.heap.size, 0, none⟩) len len) (w.alloc (.cells cs.toArray e))) (hd : dstB n o.dst = true) (hg : wantB ops M o.guard = some true)
    (c : ∀ w1 g, g = w.heap.size → RowL w1 g e cs → w1.heap.size = g + 1 → Below w.heap.size w w1 → ok w1 ∧ K (putM M o.dst (.slice (some ⟨g, 0, none⟩) len len)) w1) : SR P ops ok i K n D M w :=
  have h := c _ _ rfl (RowL.new w e cs) (by simp) (Below.alloc0 w _)
  SR.val hi (R.buildSlice ho hx (hr w)) hd hg h.1 h.2
theorem ZR.store {g off e : Nat} {xs : List Value} (hi : ops[i]? = some o) (ho : o.op = .store t x y) (hx : evM M x = some (.pointer (some ⟨g, off, none⟩))) (hy : evM M y = some v) (hz : szB P t = some 1) (hr : RowL w g e xs) (hl : off < xs.length) (h1 : v.oneCell' = true) (hcs : v.cells = #[v]) (hd : o.dst = none) (hg : wantB ops M o.guard = some true)
    (c : ∀ w1, RowL w1 g e (xs.set off v) → w.grownBy w1 (some g) → w1.heap.size = w.heap.size → ok w1 ∧ K M w1) : SR P ops ok i K n D M w := SR.mk fun K' hK a F => by
  have h := c _ (hr.set off v) (grown_set w _ v) (by simp [World.setCell])
  unfold stepR
  simp only [hi]
  rw [if_pos (F.want hg)]
  refine .inr (.inl ⟨_, R.store ho hx hy (I.st1R hz hr hl h1 hcs) a F, h.1, ?_⟩)
  rw [hd]
  exact hK _ _ h.2 _ F
theorem ZR.storeN {vs : List Value} {g off e : Nat} {xs : List Value} (hi : ops[i]? = some o) (ho : o.op = .store t x y) (hx : evM M x = some (.pointer (some ⟨g, off, none⟩))) (hy : evM M y = some (.agg vs.toArray)) (hz : szB P t = some vs.length) (hr : RowL w g e xs) (hl : off + vs.length ≤ xs.length) (h1 : ∀ u ∈ vs, u.oneCell' = true) (hd : o.dst = none) (hg : wantB ops M o.guard = some true)
    (c : ∀ w1, RowL w1 g e (xs.take off ++ vs ++ xs.drop (off + vs.length)) → w.grownBy w1 (some g) → w1.heap.size = w.heap.size → ok w1 ∧ K M w1) : SR P ops ok i K n D M w := SR.mk fun K' hK a F => by
  obtain ⟨w', hrun, hrow, hgr, hsz⟩ := I.stN (t := t) hz hr hl h1
  have h := c w' hrow hgr hsz
  unfold stepR
  simp only [hi]
  rw [if_pos (F.want hg)]
  refine .inr (.inl ⟨_, R.store ho hx hy hrun a F, h.1, ?_⟩)
  rw [hd]
  exact hK _ _ h.2 _ F
/-- A write into another block. -/
theorem Reads.gr {g b off len cap : Nat} {xs : List Value} (h : Reads w (.slice (some ⟨b, off, none⟩) len cap) xs) (hg : w.grownBy w' (some g)) (hne : b ≠ g) : Reads w' (.slice (some ⟨b, off, none⟩) len cap) xs := by
  obtain ⟨a, c, e, hc, hr⟩ := h
  refine ⟨a, c, e, hc, fun hx => ?_⟩
  obtain ⟨b', off', ea, hb, hcell⟩ := hr hx
  simp only [Value.slice.injEq] at e
  rw [← e.1] at ea
  simp only [Option.some.injEq, Addr.mk.injEq] at ea
  obtain ⟨rfl, rfl, _⟩ := ea
  refine ⟨b, off, by rw [← e.1], Nat.lt_of_lt_of_le hb hg.size, fun j hj => ?_⟩
  rw [← hcell j hj]
  exact World.cell?_of_block (hg.block b hb (by simpa using hne))
end
end Go.Proofs.YtbbddpnjglijdaaDoor
/- Maps in drawn regions that make memory. Over any program. -/
namespace Go.Proofs.YtbbddpnjglijdaaDoor
set_option linter.unusedVariables false
set_option linter.unusedSimpArgs false
open Go.RowKit Go.Shelf
section
variable {P : Program} {w : World} {t : TypeId} {o : Oper} {x y : Operand} {n i : Nat} {D : List Deferred} {M : Slots} {ops : Array Oper} {ok : World → Prop} {K : Slots → World → Prop}
theorem ZR.makeMap (hi : ops[i]? = some o) (hr : Runs P n D M o w (.value (.map (some w.heap.size))) (w.alloc (.map #[] 0))) (hd : dstB n o.dst = true) (hg : wantB ops M o.guard = some true)
    (c : ∀ w1 g, g = w.heap.size → (∀ (α β : Type) (d : TypeDesc) (ke : α → Value) (ve : β → Value), MapK d ke ve w1 g 0 (fun _ => none)) → w1.heap.size = g + 1 → Below w.heap.size w w1 → ok w1 ∧ K (putM M o.dst (.map (some g))) w1) : SR P ops ok i K n D M w :=
  have h := c _ _ rfl (fun _ _ _ _ _ => (MapK.made w).2 fun _ => rfl) (by simp) (Below.alloc0 w _)
  SR.val hi hr hd hg h.1 h.2
end
end Go.Proofs.YtbbddpnjglijdaaDoor
/- Ranges over functions, once more: what an iterator lays is a set of blocks, which may grow from round to round (a variable of a round that it reads behind the yield, too). -/
namespace Go.Proofs.YtbbddpnjglijdaaDoor
set_option linter.unusedVariables false
set_option linter.unusedSimpArgs false
open Go.RowKit Go.Shelf

/-- What a round keeps for the iterator: of the blocks from B on those that the iterator laid, and all that hold no cells. -/
structure StaysZ (B : Nat) (m : Nat → Prop) (W W' : World) : Prop where
  size : W.heap.size ≤ W'.heap.size
  same : ∀ (k : Nat) (o : Obj), B ≤ k → W.heap[k]? = some o → (m k ∨ o.isCells = false) → W'.heap[k]? = some o
/-- What an iterator's own steps may turn: no more than that. -/
structure TurnsZ (B : Nat) (m : Nat → Prop) (W W' : World) : Prop where
  os : W'.os = W.os
  tape : W'.tape = W.tape
  output : W'.output = W.output
  size : W.heap.size ≤ W'.heap.size
  same : ∀ (k : Nat) (o : Obj), W.heap[k]? = some o → (k < B ∨ (¬ m k ∧ o.isCells = true)) → W'.heap[k]? = some o
/-- What the iterator does leaves it; what it lays since may be its own. -/
def AbidesZ {β : Type} (B : Nat) (J : (Nat → Prop) → β → World → Prop) : Prop := ∀ m m' s W W', J m s W → TurnsZ B m W W' → (∀ k, m' k → m k ∨ W.heap.size ≤ k) → J m' s W'
section small
variable {B B' n : Nat} {m : Nat → Prop} {W W' X Y : World}
theorem StaysZ.refl (B : Nat) (m : Nat → Prop) (W : World) : StaysZ B m W W := ⟨Nat.le_refl _, fun _ _ _ h _ => h⟩
theorem StaysZ.trans (h : StaysZ B m X W) (k : StaysZ B m W Y) : StaysZ B m X Y := ⟨Nat.le_trans h.size k.size, fun i o hb ho hc => k.same i o hb (h.same i o hb ho hc) hc⟩
theorem StaysZ.mono (h : StaysZ B m X W) (hb : B ≤ B') : StaysZ B' m X W := ⟨h.size, fun k o hk => h.same k o (Nat.le_trans hb hk)⟩
theorem StaysZ.of_below (h : Below W.heap.size W W') : StaysZ B m W W' :=
  ⟨h.size, fun k _ _ hk _ => (h.block k (Array.getElem?_eq_some_iff.1 hk).1).trans hk⟩
theorem StaysZ.record {l : Nat} {r : Loop} (h : StaysZ B m X W) (hb : B ≤ l) (hl : X.heap[l]? = some (.loop r)) : W.heap[l]? = some (.loop r) := h.same l _ hb hl (.inr rfl)
theorem StaysZ.turn {l : Nat} {o : Obj} (hb : l < B) : StaysZ B m W (W.putObj l o) :=
  ⟨by simp, fun k _ hk hx _ => (World.putObj_heap_other (by omega)).trans hx⟩
/-- A write into a block that lies ahead of B. -/
theorem StaysZ.of_grown {b : Nat} {W W' : World} (h : W.grownBy W' (some b)) (hb : b < B) : StaysZ B m W W' :=
  ⟨h.size, fun k o hk ho _ => (h.block k (Array.getElem?_eq_some_iff.1 ho).1 (by simp; omega)).trans ho⟩
theorem StaysZ.row {g e : Nat} {xs : List Value} (h : StaysZ B m W W') (hr : RowL W g e xs) (hb : B ≤ g) (hm : m g) : RowL W' g e xs := h.same g _ hb hr (.inl hm)
theorem TurnsZ.refl (B : Nat) (m : Nat → Prop) (W : World) : TurnsZ B m W W := ⟨rfl, rfl, rfl, Nat.le_refl _, fun _ _ h _ => h⟩
theorem TurnsZ.trans (h : TurnsZ B m X W) (k : TurnsZ B m W Y) : TurnsZ B m X Y :=
  ⟨k.os.trans h.os, k.tape.trans h.tape, k.output.trans h.output, Nat.le_trans h.size k.size, fun i o ho hc => k.same i o (h.same i o ho hc) hc⟩
theorem TurnsZ.mono (h : TurnsZ B' m X W) (hb : B ≤ B') : TurnsZ B m X W := ⟨h.os, h.tape, h.output, h.size, fun k o hk hc => h.same k o hk (hc.imp (fun h => by omega) id)⟩
theorem TurnsZ.of_below (h : Below W.heap.size W W') : TurnsZ B m W W' :=
  ⟨h.os, h.tape, h.output, h.size, fun k _ hk _ => (h.block k (Array.getElem?_eq_some_iff.1 hk).1).trans hk⟩
theorem TurnsZ.putObj (h : TurnsZ B m X W) {l : Nat} {o : Obj} (o' : Obj) (hb : B ≤ l) (hl : W.heap[l]? = some o) (ho : o.isCells = false) : TurnsZ B m X (W.putObj l o') :=
  h.trans ⟨rfl, rfl, rfl, by simp, fun k x hk hc => by
    refine (World.putObj_heap_other (fun e => ?_)).trans hk
    subst e; rw [hl] at hk; cases hk; rcases hc with hc | ⟨_, hc⟩
    · omega
    · rw [ho] at hc; cases hc⟩
theorem TurnsZ.row {g e : Nat} {xs : List Value} (h : TurnsZ B m W W') (hr : RowL W g e xs) (hb : g < B ∨ ¬ m g) : RowL W' g e xs := h.same g _ hr (hb.imp_right fun h => ⟨h, rfl⟩)
theorem TurnsZ.below (h : TurnsZ B m W W') (hn : n ≤ B) (hs : n ≤ W.heap.size) : Below n W W' := ⟨h.os, h.tape, h.output, h.size, fun k hk => by
  have hlt : k < W.heap.size := by omega
  have ho := Array.getElem?_eq_getElem hlt
  exact (h.same k _ ho (.inl (by omega))).trans ho.symm⟩
theorem AbidesZ.putObj {β : Type} {I : (Nat → Prop) → β → World → Prop} (h : AbidesZ B I) {s : β} {l : Nat} {o : Obj} (o' : Obj) (hs : I m s W) (hb : B ≤ l) (hl : W.heap[l]? = some o) (ho : o.isCells = false) : I m s (W.putObj l o') :=
  h m m s W _ hs ((TurnsZ.refl _ _ _).putObj o' hb hl ho) (fun _ hk => .inl hk)
end small
/-- WHAT AN ITERATOR'S VALUE GIVES: one of the lists of S, or a beginning of one, where a round has said 'no more'. -/
def GivesZ {α : Type} (P : Program) (g : Nat) (lb : Array Value) (encs : α → Array Value) (D : Nat → Prop) (S : List α → Prop) (w : World) : Prop :=
  ∀ (l : Nat) (J Jx : (Nat → Prop) → List α → World → Prop) (W : World), Below w.heap.size w W → (AbidesZ W.heap.size J) → (AbidesZ W.heap.size Jx) →
    (∀ m pre x W1, (∀ k, m k → W.heap.size ≤ k ∧ k < W1.heap.size) → J m pre W1 → Part S (pre ++ [x]) → YieldAt Fence.wide 3 P l (encs x) W1 fun e W' =>
      StaysZ W.heap.size m W1 W' ∧ ((e = .returned (.bool true) ∧ J m (pre ++ [x]) W' ∧ Keeps D W1 W') ∨ (e = .returned (.bool false) ∧ Jx m (pre ++ [x]) W'))) →
    (J (fun _ => False) [] W) →
    Calls P g (#[.func (.yield l) #[] #[]] ++ lb) W fun e W' => (∃ v, e = .returned v) ∧ ((∃ m xs, S xs ∧ J m xs W') ∨ (∃ m pre, Part S pre ∧ Jx m pre W'))

theorem GivesZ.later {α : Type} {P : Program} {g : Nat} {lb : Array Value} {encs : α → Array Value} {D : Nat → Prop} {S : List α → Prop} {w w' : World}
    (h : GivesZ P g lb encs D S w) (hb : Below w.heap.size w w') : GivesZ P g lb encs D S w' :=
  fun l J Jx W hW hJ hJx hY h0 => h l J Jx W (hb.trans (hW.mono hb.size)) hJ hJx hY h0

section core
variable {α : Type} {P : Program}

end core


section
variable {α γ : Type} {P : Program} {n : Nat} {D : List Deferred} {M : Slots}
end
end Go.Proofs.YtbbddpnjglijdaaDoor
/- One element is appended to a slice that is full: a new row. Over any program. -/
namespace Go.Proofs.YtbbddpnjglijdaaDoor
set_option linter.unusedVariables false
set_option linter.unusedSimpArgs false
open Go.RowKit

end Go.Proofs.YtbbddpnjglijdaaDoor
/- Parts of slices. Over any program. -/
namespace Go.Proofs.YtbbddpnjglijdaaDoor
set_option linter.unusedVariables false
set_option linter.unusedSimpArgs false
open Go.RowKit Go.Shelf
section
variable {P : Program} {w : World} {T : TypeId} {e k : Nat}
theorem cell_up {w' : World} {b o : Nat} {v : Value} (h : w.cell? ⟨b, o, none⟩ = some v) (hb : Below w.heap.size w w') : w'.cell? ⟨b, o, none⟩ = some v :=
  (World.cell?_of_block (hb.block b (World.block_lt_of_cell? w _ h))).trans h
/-- A part of what a slice reads as. -/
theorem Reads.part {b off len cap lo hi : Nat} {xs : List Value} (h : Reads w (.slice (some ⟨b, off, none⟩) len cap) xs) (h1 : lo ≤ hi) (h2 : hi ≤ len) (h3 : hi - lo ≤ cap - lo) : Reads w (.slice (some ⟨b, off + lo * 1, none⟩) (hi - lo) (cap - lo)) ((xs.drop lo).take (hi - lo)) := by
  obtain ⟨a, c, e, hc, hr⟩ := h
  simp only [Value.slice.injEq] at e
  obtain ⟨rfl, rfl, rfl⟩ := e
  have hl : ((xs.drop lo).take (hi - lo)).length = hi - lo := by simp; omega
  refine ⟨_, _, by rw [hl], by rw [hl]; exact h3, fun hne => ?_⟩
  have hx : xs ≠ [] := by rintro rfl; simp at hne
  obtain ⟨b', off', ea, hb, hcell⟩ := hr hx
  simp only [Option.some.injEq, Addr.mk.injEq] at ea
  obtain ⟨rfl, rfl, _⟩ := ea
  refine ⟨b, off + lo * 1, rfl, hb, fun j hj => ?_⟩
  rw [hl] at hj
  have := hcell (lo + j) (by omega)
  rw [Nat.mul_one, Nat.add_assoc, this, List.getElem?_take, if_pos hj, List.getElem?_drop]
theorem SR.storeN {ops : Array Oper} {ok : World → Prop} {i : Nat} {K : Slots → World → Prop} {n : Nat} {D : List Deferred} {M : Slots} {o : Oper} {x y : Operand} {t : TypeId} {g off e : Nat} {xs vs : List Value} (hi : ops[i]? = some o) (ho : o.op = .store t x y) (hx : evM M x = some (.pointer (some ⟨g, off, none⟩))) (hy : evM M y = some (.agg vs.toArray)) (hz : szB P t = some vs.length) (hr : RowL w g e xs) (hl : off + vs.length ≤ xs.length) (h1 : ∀ u ∈ vs, u.oneCell' = true) (hd : o.dst = none) (hg : wantB ops M o.guard = some true)
    (c : ∀ w1, RowL w1 g e (xs.take off ++ vs ++ xs.drop (off + vs.length)) → w.grownBy w1 (some g) → w1.heap.size = w.heap.size → ok w1 ∧ K M w1) : SR P ops ok i K n D M w := SR.mk fun K' hK a F => by
  obtain ⟨w', hrun, hrow, hgr, hsz⟩ := I.stN hz hr hl h1
  have h := c w' hrow hgr hsz
  unfold stepR
  simp only [hi]
  rw [if_pos (F.want hg)]
  refine .inr (.inl ⟨_, R.store ho hx hy hrun a F, h.1, ?_⟩)
  rw [hd]
  exact hK _ _ h.2 _ F
end
end Go.Proofs.YtbbddpnjglijdaaDoor
/- Slices of tuples for the tool that writes walks: facts that are carried; two slices of one's own, one beside the other. Over any program. -/
namespace Go.Proofs.YtbbddpnjglijdaaDoor
set_option linter.unusedVariables false
set_option linter.unusedSimpArgs false
open Go.RowKit Go.Shelf
section
variable {α β : Type} {enc : α → List Value} {k e : Nat} {w w' : World} {v : Value} {ts : List α}
theorem Cells.up {b o : Nat} {vs : List Value} (h : Cells w ⟨b, o, none⟩ vs) (hb : Below w.heap.size w w') : Cells w' ⟨b, o, none⟩ vs := fun j u hu => by
  have h1 := h j u hu
  rw [Addr.add_lit] at h1 ⊢
  exact (World.cell?_of_block (hb.block b (World.block_lt_of_cell? w _ h1))).trans h1
theorem Cells.gr {b o g : Nat} {vs : List Value} (h : Cells w ⟨b, o, none⟩ vs) (hg : w.grownBy w' (some g)) (hne : b ≠ g) : Cells w' ⟨b, o, none⟩ vs := fun j u hu => by
  have h1 := h j u hu
  rw [Addr.add_lit] at h1 ⊢
  exact (World.cell?_of_block (hg.block b (World.block_lt_of_cell? w _ h1) (by simpa using hne))).trans h1
theorem Below.of_none (h : w.grownBy w' none) : Below w.heap.size w w' := (Below.refl _ _).grown h (Nat.le_refl _) fun j ej => by cases ej
theorem Kept.onB {w0 : World} {n : Nat} {K : Nat → Prop} (k : Kept K w w') (h : Below n w0 w) (hK : ∀ j, j < n → K j) : Below n w0 w' :=
  ⟨k.os.trans h.os, k.tape.trans h.tape, k.output.trans h.output, Nat.le_trans h.size k.size, fun j hj => (k.block j (hK j hj)).trans (h.block j hj)⟩
/-- What an append to another slice leaves. -/
theorem OwnsT.apart {r : Option Nat} {base : Nat} (h : OwnsT enc k w base e v ts) (hg : w.grownBy w' r) (hne : v.ownBlock = Option.none ∨ v.ownBlock ≠ r) : OwnsT enc k w' base e v ts := by
  cases r with
  | none => exact h.up (Below.of_none hg)
  | some g =>
    rcases hne with hne | hne
    · exact h.grown hg (by rw [hne]; simp)
    · exact h.grown hg hne
theorem ReadsT.gr {g b off n cap : Nat} (h : ReadsT enc k w (.slice (some ⟨b, off, none⟩) n cap) ts) (hg : w.grownBy w' (some g)) (hne : b ≠ g) : ReadsT enc k w' (.slice (some ⟨b, off, none⟩) n cap) ts := h.grown hg fun x n' c' e _ => by
  simp only [Value.slice.injEq, Option.some.injEq] at e
  rw [← e.1]
  exact hne
theorem own_ge {base : Nat} (h : OwnsT enc k w base e v ts) : ∀ g, v.ownBlock = some g → base ≤ g := by
  intro g hg
  rcases h.above with h | ⟨b, h, hb, _⟩
  · rw [h] at hg; cases hg
  · rw [h] at hg; cases hg; exact hb
end
section
variable {P : Program} {w : World} {T TI e : TypeId} {z : Value} {bytes : Nat} {kn : IntKind} {o : Oper} {n i : Nat} {D : List Deferred} {M : Slots} {ops : Array Oper} {ok : World → Prop} {K : Slots → World → Prop}
theorem ZR.append {xs : Array Operand} {v vx : Value} {base m : Nat} {us ys : List Value} (hi : ops[i]? = some o) (ho : o.op = .call { callee := .builtin .append, args := xs, argTypes := #[T, T] }) (hx : evsM M xs.toList = some [v, vx]) (I : El P T e z bytes) (hown : w.ownsRow base e 1 v m us) (hr : Reads w vx ys) (hone : ∀ u ∈ ys, u.oneCell' = true)
    (h63 : m + ys.length ≤ maxLen) (hb : (m + ys.length) * bytes ≤ 140737488355328) (hbase : base ≤ w.heap.size) (hd : dstB n o.dst = true) (hg : wantB ops M o.guard = some true)
    (k : ∀ v' w', w'.ownsRow base e 1 v' (m + ys.length) (us ++ ys) → w.grownBy w' v.ownBlock → ok w' ∧ K (putM M o.dst v') w') : SR P ops ok i K n D M w := by
  obtain ⟨v', w', h1, h2, h3⟩ := run_append_all I o.type hown hr hone h63 hb hbase
  have h := k v' w' h2 h3
  refine SR.val (v := v') hi (R.builtin ho hx fun b => ?_) hd hg h.1 h.2
  unfold builtin
  simp only [Sem.run_bind, h1, Result.andThen_ok, Sem.run_pure]
end
end Go.Proofs.YtbbddpnjglijdaaDoor
/- Slices of one's own that grow in the rounds of a range over a function; facts that such a range leaves. Over any program. -/
namespace Go.Proofs.YtbbddpnjglijdaaDoor
set_option linter.unusedVariables false
set_option linter.unusedSimpArgs false
open Go.RowKit Go.Shelf
section
variable {α : Type} {enc : α → List Value} {k e B : Nat} {m : Nat → Prop} {w w' : World} {v : Value} {ts : List α}
theorem OwnsT.same {base : Nat} (h : OwnsT enc k w base e v ts) (hz : w.heap.size ≤ w'.heap.size) (hs : ∀ (g : Nat) (cs : Array Value), v.ownBlock = some g → w.heap[g]? = some (.cells cs e) → w'.heap[g]? = some (.cells cs e)) : OwnsT enc k w' base e v ts := by
  rcases id h.2 with ⟨e1, e2⟩ | ⟨g, cap, cur, rfl, hbg, hg, r⟩
  · exact ⟨h.1, .inl ⟨e1, e2⟩⟩
  · exact ⟨h.1, .inr ⟨g, cap, cur, rfl, hbg, hs g cur rfl hg, r⟩⟩
theorem OwnsT.turn {base : Nat} (h : OwnsT enc k w base e v ts) (ht : TurnsZ B m w w') (hm : ∀ g, v.ownBlock = some g → ¬ m g) : OwnsT enc k w' base e v ts :=
  h.same ht.size fun g cs hg hx => ht.same g _ hx (.inr ⟨hm g hg, rfl⟩)
theorem TurnsZ.cell {b o : Nat} {u : Value} (ht : TurnsZ B m w w') (h : w.cell? ⟨b, o, none⟩ = some u) (hb : b < B) : w'.cell? ⟨b, o, none⟩ = some u := by
  have hlt := World.block_lt_of_cell? _ _ h
  have hx := Array.getElem?_eq_getElem hlt
  exact (World.cell?_of_block ((ht.same b _ hx (.inl hb)).trans hx.symm)).trans h
theorem Reads.sameB {b off len cap : Nat} {xs : List Value} (h : Reads w (.slice (some ⟨b, off, none⟩) len cap) xs) (hz : w.heap.size ≤ w'.heap.size) (hs : ∀ o, w.heap[b]? = some o → w'.heap[b]? = some o) : Reads w' (.slice (some ⟨b, off, none⟩) len cap) xs := by
  obtain ⟨a, c, e, hc, hr⟩ := h
  refine ⟨a, c, e, hc, fun hx => ?_⟩
  obtain ⟨b', off', ea, hb, hcell⟩ := hr hx
  simp only [Value.slice.injEq] at e
  rw [← e.1] at ea
  simp only [Option.some.injEq, Addr.mk.injEq] at ea
  obtain ⟨rfl, rfl, _⟩ := ea
  refine ⟨b, off, by rw [← e.1], Nat.lt_of_lt_of_le hb hz, fun j hj => ?_⟩
  rw [← hcell j hj]
  have hx := Array.getElem?_eq_getElem hb
  exact World.cell?_of_block ((hs _ hx).trans hx.symm)
theorem Reads.turn {b off len cap : Nat} {xs : List Value} (h : Reads w (.slice (some ⟨b, off, none⟩) len cap) xs) (ht : TurnsZ B m w w') (hb : b < B) : Reads w' (.slice (some ⟨b, off, none⟩) len cap) xs :=
  h.sameB ht.size fun o ho => ht.same b o ho (.inl hb)
theorem ReadsT.sameB {b off len cap : Nat} (h : ReadsT enc k w (.slice (some ⟨b, off, none⟩) len cap) ts) (hz : w.heap.size ≤ w'.heap.size) (hs : ∀ o, w.heap[b]? = some o → w'.heap[b]? = some o) : ReadsT enc k w' (.slice (some ⟨b, off, none⟩) len cap) ts := by
  obtain ⟨a, c, e, hc, hr⟩ := h
  refine ⟨a, c, e, hc, fun hx => ?_⟩
  obtain ⟨b', off', ea, hb, hcell⟩ := hr hx
  simp only [Value.slice.injEq] at e
  rw [← e.1] at ea
  simp only [Option.some.injEq, Addr.mk.injEq] at ea
  obtain ⟨rfl, rfl, _⟩ := ea
  refine ⟨b, off, by rw [← e.1], Nat.lt_of_lt_of_le hb hz, ?_⟩
  have hx := Array.getElem?_eq_getElem hb
  have hbk := (hs _ hx).trans hx.symm
  intro j hj
  rw [← hcell j hj]
  exact World.cell?_of_block hbk
/-- A write into a slice of one's own, in a round. -/
theorem StaysZ.own {base : Nat} (h : OwnsT enc k w base e v ts) (hg : w.grownBy w' v.ownBlock) (hm : ∀ g, v.ownBlock = some g → ¬ m g) : StaysZ B m w w' := by
  refine ⟨hg.size, fun j o hb hj hc => ?_⟩
  have hlt := (Array.getElem?_eq_some_iff.1 hj).1
  refine (hg.block j hlt fun ej => ?_).trans hj
  rcases id h.2 with ⟨e1, e2⟩ | ⟨g, cap, cur, rfl, hbg, hgg, r⟩
  · rw [e1] at ej; cases ej
  · have ej' : j = g := by simpa [Value.ownBlock] using ej
    subst ej'
    rcases hc with hc | hc
    · exact hm j rfl hc
    · rw [hgg] at hj; cases hj; cases hc
end
end Go.Proofs.YtbbddpnjglijdaaDoor
/- Equal structs and arrays of integers, truth values, strings, and of such: cell by cell. Over any program. -/
namespace Go.Proofs.YtbbddpnjglijdaaDoor
set_option linter.unusedVariables false
set_option linter.unusedSimpArgs false
open Go.RowKit Go.Shelf
section
variable {P : Program}
def eqF (P : Program) (g : TypeId → List Value → List Value → Option (List Bool)) (xs ys : List Value) : List Field → Option (List Bool)
  | [] => some []
  | f :: fs => if f.name = "_" then none else match g f.type ((xs.drop f.offset).take (P.cellsOf f.type)) ((ys.drop f.offset).take (P.cellsOf f.type)), eqF P g xs ys fs with
    | some a, some b => some (a ++ b)
    | _, _ => none
def eqI (g : List Value → List Value → Option (List Bool)) (c : Nat) (xs ys : List Value) : List Nat → Option (List Bool)
  | [] => some []
  | i :: is => match g ((xs.drop (i * c)).take c) ((ys.drop (i * c)).take c), eqI g c xs ys is with
    | some a, some b => some (a ++ b)
    | _, _ => none
def eqC (P : Program) : Nat → TypeId → List Value → List Value → Option (List Bool)
  | 0, _, _, _ => none
  | d + 1, t, xs, ys => match P.underlying t with
    | some (.struct fs) => if P.stoodInHeld t = true then none else eqF P (eqC P d) xs ys fs.toList
    | some (.array n e) => if n = 0 then none else eqI (eqC P d e) (P.cellsOf e) xs ys (List.range n)
    | some (.int _) => match xs, ys with
      | [.int k a], [.int k' b] => if k = k' then some [decide (a = b)] else none
      | _, _ => none
    | some .bool => match xs, ys with
      | [.bool a], [.bool b] => some [a == b]
      | _, _ => none
    | some .string => match xs, ys with
      | [.string a], [.string b] => some [a.toList == b.toList]
      | _, _ => none
    | _ => none
def valC (P : Program) (t : TypeId) (xs : List Value) : Value := match P.underlying t with
  | some (.struct _) | some (.array _ _) => .agg xs.toArray
  | _ => xs.headD undef
theorem eqC_part {d : Nat} {t : TypeId} {xs ys : List Value} {off : Nat} {bs : List Bool} (h : eqC P d t ((xs.drop off).take (P.cellsOf t)) ((ys.drop off).take (P.cellsOf t)) = some bs) (w : World) :
    (part t xs.toArray off).run P w = .ok (valC P t ((xs.drop off).take (P.cellsOf t))) w ∧ (part t ys.toArray off).run P w = .ok (valC P t ((ys.drop off).take (P.cellsOf t))) w := by
  cases d with
  | zero => cases h
  | succ d =>
    have one : ∀ (zs : List Value) (v : Value), (zs.drop off).take (P.cellsOf t) = [v] → zs.toArray[off]? = some v := by
      intro zs v hz
      have : ((zs.drop off).take (P.cellsOf t))[0]? = some v := by rw [hz]; rfl
      rw [List.getElem?_take] at this
      split at this
      · simpa using this
      · cases this
    have agg : ∀ zs : List Value, zs.toArray.extract off (off + P.cellsOf t) = ((zs.drop off).take (P.cellsOf t)).toArray := by
      intro zs
      simp [List.extract]
    cases hu : P.underlying t with
    | none => simp [eqC, hu] at h
    | some kd =>
      obtain ⟨i, hi⟩ := info_of_underlying hu
      cases kd <;> simp only [eqC, hu] at h <;> try (cases h; done)
      case bool =>
        split at h
        · rename_i a b e1 e2
          rw [e1, e2]
          simp [part, isAgg, run_underlying hu, valC, hu, one xs _ e1, one ys _ e2]
        · cases h
      case int =>
        split at h
        · rename_i a b e1 e2
          rw [e1, e2]
          simp [part, isAgg, run_underlying hu, valC, hu, one xs _ e1, one ys _ e2]
        · cases h
      case string =>
        split at h
        · rename_i a b e1 e2
          rw [e1, e2]
          simp [part, isAgg, run_underlying hu, valC, hu, one xs _ e1, one ys _ e2]
        · cases h
      case struct fs => simp [part, isAgg, run_underlying hu, run_sizeOf _ hi, valC, hu, List.extract]
      case array n e => simp [part, isAgg, run_underlying hu, run_sizeOf _ hi, valC, hu, List.extract]
theorem fieldsOf_eq {t : TypeId} {fs : Array Field} (h : P.underlying t = some (.struct fs)) : P.fieldsOf t = fs := by simp [Program.fieldsOf, h]
theorem run_eqF {d dd : Nat} {xs ys : List Value} (IH : ∀ t xs ys bs w, eqC P d t xs ys = some bs → (Op.equalIn dd t (valC P t xs) (valC P t ys)).run P w = .ok (bs.all id) w) :
    ∀ (fs : List Field) (bs : List Bool) (w : World), eqF P (eqC P d) xs ys fs = some bs → (Op.eqFields dd xs.toArray ys.toArray fs).run P w = .ok (bs.all id) w
  | [], bs, w, h => by simp only [eqF, Option.some.injEq] at h; subst h; simp [Op.eqFields]
  | f :: fs, bs, w, h => by
    simp only [eqF] at h
    split at h
    · cases h
    rename_i hn
    split at h
    · rename_i a b h1 h2
      cases h
      obtain ⟨p1, p2⟩ := eqC_part h1 w
      simp only [Op.eqFields, ne_eq, hn, not_false_eq_true, if_true, Sem.run_bind, p1, p2, Result.andThen_ok, IH _ _ _ _ w h1, List.all_append]
      cases ha : a.all id
      · simp
      · simpa using run_eqF IH fs b w h2
    · cases h
theorem run_eqI {d dd : Nat} {e : TypeId} {xs ys : List Value} (IH : ∀ t xs ys bs w, eqC P d t xs ys = some bs → (Op.equalIn dd t (valC P t xs) (valC P t ys)).run P w = .ok (bs.all id) w) :
    ∀ (is : List Nat) (bs : List Bool) (w : World), eqI (eqC P d e) (P.cellsOf e) xs ys is = some bs → (Op.eqItems dd e (P.cellsOf e) xs.toArray ys.toArray is).run P w = .ok (bs.all id) w
  | [], bs, w, h => by simp only [eqI, Option.some.injEq] at h; subst h; simp [Op.eqItems]
  | i :: is, bs, w, h => by
    simp only [eqI] at h
    split at h
    · rename_i a b h1 h2
      cases h
      obtain ⟨p1, p2⟩ := eqC_part h1 w
      simp only [Op.eqItems, Sem.run_bind, p1, p2, Result.andThen_ok, IH _ _ _ _ w h1, List.all_append]
      cases ha : a.all id
      · simp
      · simpa using run_eqI IH is b w h2
    · cases h
theorem run_eqC : ∀ (d k : Nat) (t : TypeId) (xs ys : List Value) (bs : List Bool) (w : World), eqC P d t xs ys = some bs → (Op.equalIn (d + k) t (valC P t xs) (valC P t ys)).run P w = .ok (bs.all id) w
  | 0, _, _, _, _, _, _, h => by cases h
  | d + 1, k, t, xs, ys, bs, w, h => by
    have IH := fun t xs ys bs w => run_eqC d k t xs ys bs w
    rw [show d + 1 + k = (d + k) + 1 by omega]
    cases hu : P.underlying t with
    | none => simp [eqC, hu] at h
    | some kd =>
      cases kd <;> simp only [eqC, hu] at h <;> try (cases h; done)
      case bool =>
        split at h
        · rename_i a b
          cases h
          simp [valC, hu, run_equalIn_bool' w (d + k) t a b hu]
        · cases h
      case int q =>
        split at h
        · rename_i k1 a k2 b
          split at h
          · rename_i hk
            subst hk
            cases h
            simp only [valC, hu, List.headD_cons, List.all_cons, List.all_nil, Bool.and_true, id]
            exact run_equalIn_int w (d + k) t k1 q a b hu
          · cases h
        · cases h
      case string =>
        split at h
        · rename_i a b
          cases h
          simp [valC, hu, run_equalIn_string w (d + k) t a b hu]
        · cases h
      case struct fs =>
        split at h
        · cases h
        rename_i hst
        simp only [valC, hu]
        have hf := fieldsOf_eq hu
        rw [run_equalIn_struct w (d + k) t _ _ (by rw [hf]; exact hu) (by simpa using hst), hf]
        exact run_eqF IH _ _ _ h
      case array n e =>
        split at h
        · cases h
        rename_i hn0
        cases n with
        | zero => exact absurd rfl hn0
        | succ n =>
          have hi : ∃ i, P.info? e = some i := by
            rw [show List.range (n + 1) = 0 :: (List.range n).map Nat.succ by rw [List.range_succ_eq_map]] at h
            simp only [eqI] at h
            split at h
            · rename_i a b h1 h2
              cases d with
              | zero => cases h1
              | succ d =>
                cases hue : P.underlying e with
                | none => simp [eqC, hue] at h1
                | some _ => exact info_of_underlying hue
            · cases h
          obtain ⟨i, hi⟩ := hi
          simp only [valC, hu]
          rw [run_equalIn_array w (d + k) _ _ hu hi]
          exact run_eqI IH _ _ _ h
theorem valC_agg {t : TypeId} {xs : List Value} (h : aggB P t = true) : valC P t xs = .agg xs.toArray := by
  unfold aggB at h
  unfold valC
  split at h <;> first | rfl | simp_all
variable {n : Nat} {D : List Deferred} {M : Slots} {w : World} {o : Oper} {x y : Operand} {t u : TypeId} {xs ys : List Value} {bs : List Bool} {p : Prop} [Decidable p]
theorem R.eqBsS (ho : o.op = .binOp .eql t x y u) (hx : evM M x = some (.agg xs.toArray)) (hy : evM M y = some (.agg ys.toArray)) (ht : aggB P t = true) (hg : P.eqGuardType P.depth t = false) (hb : eqC P 9 t xs ys = some bs) (hp : bs.all id = decide p) : Runs P n D M o w (.value (.bool (decide p))) w := R.bin ho hx hy (by
  have h := run_eqC 9 9991 t xs ys bs w hb
  rw [valC_agg ht, valC_agg ht] at h
  simp only [Sem.run_bind, run_eqGuard_agg w _ _ _ _ _ _ hg, Result.andThen_ok, run_eql_struct]
  rw [show (10000 : Nat) = 9 + 9991 from rfl, h, hp]
  rfl)
theorem R.neS' (ho : o.op = .binOp .neq t x y u) (hx : evM M x = some (.agg xs.toArray)) (hy : evM M y = some (.agg ys.toArray)) (ht : aggB P t = true) (hg : P.eqGuardType P.depth t = false) (hb : eqC P 9 t xs ys = some bs) (hp : bs.all id = decide p) : Runs P n D M o w (.value (.bool (decide ¬p))) w := R.bin ho hx hy (by
  have h := run_eqC 9 9991 t xs ys bs w hb
  rw [valC_agg ht, valC_agg ht] at h
  simp only [Sem.run_bind, run_eqGuard_agg w _ _ _ _ _ _ hg, Result.andThen_ok, run_neq_struct]
  rw [show (10000 : Nat) = 9 + 9991 from rfl, h, hp]
  simp)
theorem R.eqST (ho : o.op = .binOp .eql t x y u) (hx : evM M x = some (.agg xs.toArray)) (hy : evM M y = some (.agg ys.toArray)) (ht : aggB P t = true) (hg : P.eqGuardType P.depth t = false) (hb : eqC P 9 t xs ys = some bs) (hp : bs.all id = decide p) (h : p) : Runs P n D M o w (.value (.bool true)) w := by
  have := R.eqBsS (w := w) (n := n) (D := D) ho hx hy ht hg hb hp
  rwa [decide_eq_true h] at this
theorem R.eqSF (ho : o.op = .binOp .eql t x y u) (hx : evM M x = some (.agg xs.toArray)) (hy : evM M y = some (.agg ys.toArray)) (ht : aggB P t = true) (hg : P.eqGuardType P.depth t = false) (hb : eqC P 9 t xs ys = some bs) (hp : bs.all id = decide p) (h : ¬p) : Runs P n D M o w (.value (.bool false)) w := by
  have := R.eqBsS (w := w) (n := n) (D := D) ho hx hy ht hg hb hp
  rwa [decide_eq_false h] at this
theorem R.neST (ho : o.op = .binOp .neq t x y u) (hx : evM M x = some (.agg xs.toArray)) (hy : evM M y = some (.agg ys.toArray)) (ht : aggB P t = true) (hg : P.eqGuardType P.depth t = false) (hb : eqC P 9 t xs ys = some bs) (hp : bs.all id = decide p) (h : p) : Runs P n D M o w (.value (.bool false)) w := by
  have := R.neS' (w := w) (n := n) (D := D) ho hx hy ht hg hb hp
  rwa [decide_eq_false (not_not_intro h)] at this
end
end Go.Proofs.YtbbddpnjglijdaaDoor
/- A walk that writes one block that was there, and new ones: what it keeps. -/
namespace Go.Proofs.YtbbddpnjglijdaaDoor
set_option linter.unusedVariables false
set_option linter.unusedSimpArgs false
open Go.RowKit Go.Shelf
/-- All blocks that were there stay, but g. -/
def Gw (g : Nat) (w0 w : World) : Prop := Kept (fun j => j < w0.heap.size ∧ j ≠ g) w0 w
section
variable {w0 w w' : World} {g r : Nat}
theorem Gw.refl (g : Nat) (w : World) : Gw g w w := Kept.refl _ _
theorem Gw.size (h : Gw g w0 w) : w0.heap.size ≤ w.heap.size := Kept.size h
theorem Gw.gr (h : Gw g w0 w) (hb : w.grownBy w' (some r)) (e : r = g ∨ w0.heap.size ≤ r) : Gw g w0 w' :=
  Kept.trans h (grown_kept hb (fun j hj => Nat.lt_of_lt_of_le hj.1 h.size) (fun j hj e' => by cases e'; rcases e with e | e; exact hj.2 e; exact absurd hj.1 (Nat.not_lt.2 e)))
theorem Gw.up (h : Gw g w0 w) (hb : Below w.heap.size w w') : Gw g w0 w' :=
  Kept.trans h (bkept hb (fun j hj => Nat.lt_of_lt_of_le hj.1 h.size))
theorem Gw.kept (h : Gw g w0 w) (hk : Kept (fun j => j < w.heap.size ∧ j ≠ r) w w') (e : r = r ∧ (r = g ∨ w0.heap.size ≤ r)) : Gw g w0 w' :=
  Kept.trans h (hk.less fun j hj => ⟨Nat.lt_of_lt_of_le hj.1 h.size, fun e' => by rcases e.2 with e | e; exact hj.2 (e'.trans e); exact absurd hj.1 (by omega)⟩)
/-- Where g is new to who called, nothing of what was there has changed. -/
theorem Gw.bel {w1 : World} (h : Gw g w0 w) (hb : Below w1.heap.size w1 w0) (hg : w1.heap.size ≤ g) : Below w1.heap.size w1 w :=
  Kept.bel ((bkept hb fun _ h => h).trans (Kept.less h fun j hj => ⟨Nat.lt_of_lt_of_le hj hb.size, fun e => absurd hj (by omega)⟩))
end
end Go.Proofs.YtbbddpnjglijdaaDoor
/- walk: what a walker is, and what an answer makes of it. -/
namespace Go.Proofs.YtbbddpnjglijdaaDoor
set_option linter.unusedVariables false
set_option linter.unusedSimpArgs false
open Go.RowKit Go.Shelf
/-- An end: an error, a directory, a name, an inode, its kind. -/
abbrev Wd := Int × Int × Bs × Int × Int
abbrev wdZ : Wd := (0, 0, [], 0, 0)
/-- What a name is: an inode, its kind, a link's target. -/
abbrev Fd := Int × Int × Bs
/-- A walker: where it stands, what is left, the links, whether it follows at the end; how it ended. -/
structure Wk where
  dir : Int
  ps : List Bs
  links : Nat
  fol : Bool
  fin : Option Wd
def skipD : List Bs → List Bs
  | [] => []
  | p :: r => if p = [46] then skipD r else p :: r
def Wk.done (s : Wk) (x : Wd) : Wk := ⟨s.dir, [], s.links, s.fol, some x⟩
def Wk.on (s : Wk) : Wk := match skipD s.ps with
  | [] => s.done (0, 0, [], s.dir, 2)
  | p :: r => ⟨s.dir, p :: r, s.links, s.fol, none⟩
def newW (path : Bs) (fol : Bool) : Wk := Wk.on ⟨1, partsL path, 0, fol, none⟩
def Wk.miss (s : Wk) : Wk := s.done (match s.ps with
  | [p] => (270, s.dir, p, 0, 0)
  | _ => (270, 0, [], 0, 0))
def lpath (t : Bs) : Bs := if t.head? = some 47 then t else 47 :: t
def Wk.link (s : Wk) (t : Bs) : Wk :=
  if 8 < s.links + 1 then s.done (272, 0, [], 0, 0)
  else if pathN (lpath t) = 0 then Wk.on ⟨if t.head? = some 47 then 1 else s.dir, partsL (lpath t) ++ s.ps, s.links + 1, s.fol, none⟩
  else s.done ((pathN (lpath t) : Int), 0, [], 0, 0)
def Wk.give (s : Wk) (f : Fd) : Wk := match s.ps with
  | [] => s
  | part :: r =>
    if part = [46, 46] then Wk.on ⟨f.1, r, s.links, s.fol, none⟩
    else if f.2.1 = 3 ∧ (r ≠ [] ∨ s.fol = true) then Wk.link ⟨s.dir, r, s.links, s.fol, none⟩ f.2.2
    else if f.2.1 = 2 ∧ r ≠ [] then Wk.on ⟨f.1, r, s.links, s.fol, none⟩
    else if r ≠ [] then s.done (271, 0, [], 0, 0)
    else s.done (0, s.dir, part, f.1, f.2.1)
/-- A walker that may be; one that asks has a part that it asks for. -/
structure Wk.ok (s : Wk) : Prop where
  links : s.links ≤ 8
  len : s.ps.length ≤ 1001 * (s.links + 1)
def Wk.asks (s : Wk) : Prop := s.fin = none → ∃ p r, s.ps = p :: r ∧ p ≠ [46]
theorem Wk.ok.big {s : Wk} (h : s.ok) : s.ps.length ≤ 10000 := by
  have := h.links
  have := h.len
  omega
theorem skipD_len : ∀ l : List Bs, (skipD l).length ≤ l.length
  | [] => Nat.le_refl _
  | p :: r => by
    unfold skipD
    split
    · exact Nat.le_succ_of_le (skipD_len r)
    · exact Nat.le_refl _
theorem skipD_head : ∀ (l : List Bs) {p : Bs} {r : List Bs}, skipD l = p :: r → p ≠ [46]
  | [], _, _, h => by cases h
  | q :: l, p, r, h => by
    unfold skipD at h
    split at h
    · exact skipD_head l h
    · cases h
      assumption
theorem done_ok {s : Wk} (h : s.ok) (x : Wd) : (s.done x).ok := ⟨h.links, Nat.zero_le _⟩
theorem done_asks (s : Wk) (x : Wd) : (s.done x).asks := fun h => by cases h
theorem on_ok {s : Wk} (h : s.ok) : s.on.ok := by
  unfold Wk.on
  have h1 := skipD_len s.ps
  split
  · exact done_ok h _
  · rename_i p r e
    rw [e] at h1
    exact ⟨h.links, by have := h.len; show (p :: r).length ≤ 1001 * (s.links + 1); omega⟩
theorem on_asks (s : Wk) : s.on.asks := by
  unfold Wk.on
  split
  · exact done_asks _ _
  · rename_i p r e
    exact fun _ => ⟨p, r, rfl, skipD_head _ e⟩
theorem partsL_len0 {l : Bs} (h : pathN l = 0) : (partsL l).length ≤ 1001 := by
  have := partsL_len l
  have := pathN_long h
  omega
theorem new_ok {path : Bs} (fol : Bool) (h : pathN path = 0) : (newW path fol).ok := on_ok ⟨Nat.zero_le 8, by have := partsL_len0 h; show _ ≤ 1001 * (0 + 1); omega⟩
theorem miss_ok {s : Wk} (h : s.ok) : s.miss.ok := done_ok h _
theorem link_ok {s : Wk} (h : s.ok) (t : Bs) : (s.link t).ok := by
  unfold Wk.link
  split
  · exact done_ok h _
  · split
    · rename_i h1 h2
      refine on_ok ⟨by show s.links + 1 ≤ 8; omega, ?_⟩
      have := partsL_len0 h2
      have := h.len
      show (partsL (lpath t) ++ s.ps).length ≤ 1001 * (s.links + 1 + 1)
      rw [List.length_append]
      omega
    · exact done_ok h _
theorem link_asks (s : Wk) (t : Bs) : (s.link t).asks := by
  unfold Wk.link
  split
  · exact done_asks _ _
  · split
    · exact on_asks _
    · exact done_asks _ _
theorem give_ok {s : Wk} (h : s.ok) (f : Fd) : (s.give f).ok := by
  obtain ⟨dir, ps, links, fol, fin⟩ := s
  obtain ⟨h1, h2⟩ := h
  simp only at h1 h2
  unfold Wk.give
  cases ps with
  | nil => exact ⟨h1, h2⟩
  | cons part r =>
    have h3 : ∀ d, Wk.ok ⟨d, r, links, fol, none⟩ := fun d => ⟨h1, by simp only [List.length_cons] at h2; show r.length ≤ 1001 * (links + 1); omega⟩
    dsimp only
    repeat' split
    · exact on_ok (h3 _)
    · exact link_ok (h3 _) _
    · exact on_ok (h3 _)
    · exact ⟨h1, Nat.zero_le _⟩
    · exact ⟨h1, Nat.zero_le _⟩
theorem give_asks {s : Wk} (h : s.asks) (f : Fd) : (s.give f).asks := by
  obtain ⟨dir, ps, links, fol, fin⟩ := s
  unfold Wk.give
  cases ps with
  | nil => exact h
  | cons part r =>
    dsimp only
    repeat' split
    · exact on_asks _
    · exact link_asks _ _
    · exact on_asks _
    · exact done_asks _ _
    · exact done_asks _ _
/-- A walker's cells. -/
abbrev wkL (x : Wd) (dn : Bool) (dir : Int) (lv : Value) (links : Int) (fol mk : Bool) : List Value := [.int .i64 x.1, .int .i64 x.2.1, strV x.2.2.1, .int .i64 x.2.2.2.1, .int .i64 x.2.2.2.2, .bool dn, .int .i64 dir, lv, .int .i64 links, .bool fol, .bool mk]
abbrev wdV (x : Wd) : Value := .agg #[.int .i64 x.1, .int .i64 x.2.1, strV x.2.2.1, .int .i64 x.2.2.2.1, .int .i64 x.2.2.2.2]
abbrev fdV (f : Fd) : Value := .agg #[.int .i64 f.1, .int .i64 f.2.1, strV f.2.2]
/-- A list of parts, below B, that the block g does not hold. -/
structure PsAt (w : World) (B g : Nat) (v : Value) (l : List Bs) : Prop where
  r : ReadsT stE 1 w v l
  ne : ∀ (x : Addr) (n c : Nat), v = .slice (some x) n c → 0 < n → x.block < B ∧ x.block ≠ g
  hB : B ≤ w.heap.size
section
variable {w w' : World} {B g r : Nat} {v : Value} {l : List Bs}
theorem PsAt.up (h : PsAt w B g v l) (hb : Below w.heap.size w w') : PsAt w' B g v l := ⟨h.r.up hb, h.ne, Nat.le_trans h.hB hb.size⟩
theorem PsAt.gr (h : PsAt w B g v l) (hb : w.grownBy w' (some r)) (e : r = g ∨ B ≤ r) : PsAt w' B g v l := ⟨h.r.grown hb fun x n c e1 h0 => by
  have := h.ne x n c e1 h0
  omega, h.ne, Nat.le_trans h.hB hb.size⟩
theorem PsAt.keepG {K : Nat → Prop} (h : PsAt w B g v l) (hk : Kept K w w') (hK : ∀ j, j < B → j ≠ g → K j) : PsAt w' B g v l := by
  obtain ⟨⟨a, cap, rfl, hc, h1⟩, ne, hB⟩ := h
  refine ⟨⟨a, cap, rfl, hc, fun hne => ?_⟩, ne, Nat.le_trans hB hk.size⟩
  obtain ⟨b, off, rfl, hb, hcs⟩ := h1 hne
  have hn := ne _ _ _ rfl (List.length_pos_iff.2 hne)
  exact ⟨b, off, rfl, Nat.lt_of_lt_of_le hb hk.size, fun j hj => (World.cell?_of_block (hk.block b (hK b hn.1 hn.2))).trans (hcs j hj)⟩
theorem PsAt.kept (h : PsAt w B g v l) (hk : Kept (fun j => j < w.heap.size ∧ j ≠ r) w w') (e : r = r ∧ (r = g ∨ B ≤ r)) : PsAt w' B g v l := h.keepG hk fun j h1 h2 => ⟨Nat.lt_of_lt_of_le h1 h.hB, by omega⟩
theorem PsAt.len (h : PsAt w B g v l) : ∃ a c, v = .slice a l.length c := by
  obtain ⟨a, c, e, _⟩ := h.r.form rfl
  exact ⟨a, c, e⟩
end
theorem own_in {α : Type} {enc : α → List Value} {k : Nat} {w : World} {base e b : Nat} {v : Value} {ts : List α} (h : OwnsT enc k w base e v ts) (hb : v.ownBlock = some b) : b < w.heap.size := by
  rcases h.above with h0 | ⟨b', h0, h1, h2⟩
  · rw [h0] at hb; cases hb
  · rw [h0] at hb; cases hb; exact h2
end Go.Proofs.YtbbddpnjglijdaaDoor
/- walk: a path's parts (written by genwk1.py). -/
namespace Go.Proofs.YtbbddpnjglijdaaDoor
set_option linter.unusedVariables false
set_option linter.unusedSimpArgs false
open Go.RowKit Go.Shelf
set_option maxRecDepth 100000 in
set_option maxHeartbeats 8000000 in
theorem wparts_any (l : Bs) (w : World) (hm : Mx w) (hl : l.length ≤ 9223372036854775807) :
    Calls Tryd.prog 32 #[strV l] w fun e w' => ∃ v, e = .returned (.tuple #[v, .int .i64 (pathN l : Int)]) ∧ OwnsT stE 1 w' w.heap.size 9 v (if pathN l = 0 then partsL l else []) ∧ Below w.heap.size w w' := by
  refine X.fnM Tryd.func32 rfl (n := 26) rfl rfl ?_
  have q := Below.refl w.heap.size w
  (repeat (first | (first | refine CC.seq ?_ | refine CC.region ?_ | refine LL.nilS ?_ | refine CC.yes rfl ?_ | refine CC.no rfl ?_ | refine CC.block ?_ | refine EE.thenN ?_ | refine LL.nil ?_ | refine CC.exit ?_ | refine CC.ret ?_ | refine CC.skip ?_ | refine EE.thenX ?_ | refine EE.thenR ?_ | refine EE.inN ?_ | refine EE.inX ?_ | refine EE.inX' rfl ?_ | refine EE.inR ?_ | refine CC.label ?_ | refine EE.thenG ?_ | refine EE.inG ?_) | (first | refine LL.val (R.move rfl rfl) rfl rfl rfl ?_ | refine LL.val (R.assign rfl rfl) rfl rfl rfl ?_ | refine LL.val (R.nil rfl rfl) rfl rfl rfl ?_ | refine LL.val (R.field rfl rfl (I.fld rfl)) rfl rfl rfl ?_ | refine LL.val (R.load rfl rfl (I.ld1 rfl (by assumption))) rfl rfl rfl ?_ | refine LL.val (R.load rfl rfl (I.ld1 rfl (RowL.cell (by assumption) rfl))) rfl rfl rfl ?_ | refine LL.val (R.index rfl rfl rfl (I.ixA1c rfl rfl (by first | omega | decide))) rfl rfl rfl ?_ | refine LL.val (R.index rfl rfl rfl (I.ixS1c rfl rfl (by omega))) rfl rfl rfl ?_ | refine LL.val (R.index rfl rfl rfl (I.ixAc rfl rfl (by first | omega | decide))) rfl rfl rfl ?_ | refine LL.val (R.index rfl rfl rfl (I.ixSc rfl rfl (by omega))) rfl rfl rfl ?_ | refine LL.val (R.index rfl rfl rfl (I.ixA1 rfl (by omega))) rfl rfl rfl ?_ | refine LL.val (R.index rfl rfl rfl (I.ixS1 rfl (by omega))) rfl rfl rfl ?_ | refine LL.val (R.index rfl rfl rfl (I.ixA rfl (by omega))) rfl rfl rfl ?_ | refine LL.val (R.index rfl rfl rfl (I.ixS rfl (by omega))) rfl rfl rfl ?_ | refine LL.val (R.ltT rfl rfl rfl (by omega)) rfl rfl rfl ?_ | refine LL.val (R.ltF rfl rfl rfl (by omega)) rfl rfl rfl ?_ | refine LL.val (R.addNc rfl rfl rfl rfl (by omega)) rfl rfl rfl ?_ | refine LL.val (R.subNc rfl rfl rfl rfl (by omega) (by omega)) rfl rfl rfl ?_ | refine LL.val (R.addN rfl rfl rfl (by omega)) rfl rfl rfl ?_ | refine LL.val (R.subN rfl rfl rfl (by omega) (by omega)) rfl rfl rfl ?_ | refine LL.val (R.subcN rfl rfl rfl rfl (by omega) (by omega)) rfl rfl rfl ?_ | refine LL.val (R.addI rfl rfl rfl (by omega)) rfl rfl rfl ?_ | refine LL.val (R.subI rfl rfl rfl (by omega)) rfl rfl rfl ?_ | refine LL.val (R.mulNc rfl rfl rfl rfl (by omega)) rfl rfl rfl ?_ | refine LL.val (R.mulcN rfl rfl rfl rfl (by omega)) rfl rfl rfl ?_ | refine LL.val (R.quoNc rfl rfl rfl rfl (by omega) (by omega)) rfl rfl rfl ?_ | refine LL.val (R.remNc rfl rfl rfl rfl (by omega)) rfl rfl rfl ?_ | refine LL.val (R.mulN rfl rfl rfl (by omega)) rfl rfl rfl ?_ | refine LL.val (R.quoN rfl rfl rfl (by omega) (by omega)) rfl rfl rfl ?_ | refine LL.val (R.remN rfl rfl rfl (by omega)) rfl rfl rfl ?_ | refine LL.val (R.leT rfl rfl rfl (by omega)) rfl rfl rfl ?_ | refine LL.val (R.leF rfl rfl rfl (by omega)) rfl rfl rfl ?_ | refine LL.val (R.gtT rfl rfl rfl (by omega)) rfl rfl rfl ?_ | refine LL.val (R.gtF rfl rfl rfl (by omega)) rfl rfl rfl ?_ | refine LL.val (R.geT rfl rfl rfl (by omega)) rfl rfl rfl ?_ | refine LL.val (R.geF rfl rfl rfl (by omega)) rfl rfl rfl ?_ | refine LL.val (R.eqT rfl rfl rfl (by omega)) rfl rfl rfl ?_ | refine LL.val (R.eqF rfl rfl rfl (by omega)) rfl rfl rfl ?_ | refine LL.val (R.neT rfl rfl rfl (by omega)) rfl rfl rfl ?_ | refine LL.val (R.neF rfl rfl rfl (by omega)) rfl rfl rfl ?_ | refine LL.val (R.eqPtr rfl rfl rfl rfl rfl) rfl rfl rfl ?_ | refine LL.val (R.nePtr rfl rfl rfl rfl rfl) rfl rfl rfl ?_ | refine LL.val (R.eqSl rfl rfl rfl rfl rfl) rfl rfl rfl ?_ | refine LL.val (R.neSl rfl rfl rfl rfl rfl) rfl rfl rfl ?_ | refine LL.val (R.eqFn rfl rfl rfl rfl) rfl rfl rfl ?_ | refine LL.val (R.eqBool rfl rfl rfl rfl rfl) rfl rfl rfl ?_ | refine LL.val (R.neBool rfl rfl rfl rfl rfl) rfl rfl rfl ?_ | refine LL.val (R.xorU rfl rfl rfl (by first | omega | decide) (by first | omega | decide)) rfl rfl rfl ?_ | refine LL.val (R.addUN rfl rfl rfl (by omega)) rfl rfl rfl ?_ | refine LL.val (R.not rfl rfl) rfl rfl rfl ?_ | refine LL.val (R.lenS rfl rfl rfl rfl) rfl rfl rfl ?_ | refine LL.val (R.len rfl rfl rfl rfl) rfl rfl rfl ?_ | refine LL.val (R.pick rfl rfl rfl) rfl rfl rfl ?_ | refine LL.val (R.extract rfl rfl rfl) rfl rfl rfl ?_ | refine LL.val (R.func rfl rfl rfl) rfl rfl rfl ?_ | refine LL.val (R.slice rfl rfl rfl rfl rfl (I.slA rfl)) rfl rfl rfl ?_ | refine LL.val (R.slice rfl rfl rfl rfl rfl (I.slAto rfl (by omega))) rfl rfl rfl ?_) | refine LL.skip rfl rfl ?_))
  refine LL.call (R.call rfl rfl rfl) rfl rfl rfl (short_any l _ hm hl) ?_
  rintro e W ⟨rfl, b⟩
  refine ⟨_, rfl, ?_⟩
  have hsz_ := b.size
  replace q := q.trans (b.mono q.size)
  replace hm := hm.up b
  by_cases h0 : pathN l = 0
  case neg =>
    rw [if_neg h0]
    obtain ⟨n, hn⟩ : ∃ n, pathN l = n := ⟨_, rfl⟩
    rw [hn] at h0 ⊢
    (repeat (first | (first | refine CC.seq ?_ | refine CC.region ?_ | refine LL.nilS ?_ | refine CC.yes rfl ?_ | refine CC.no rfl ?_ | refine CC.block ?_ | refine EE.thenN ?_ | refine LL.nil ?_ | refine CC.exit ?_ | refine CC.ret ?_ | refine CC.skip ?_ | refine EE.thenX ?_ | refine EE.thenR ?_ | refine EE.inN ?_ | refine EE.inX ?_ | refine EE.inX' rfl ?_ | refine EE.inR ?_ | refine CC.label ?_ | refine EE.thenG ?_ | refine EE.inG ?_) | (first | refine LL.val (R.move rfl rfl) rfl rfl rfl ?_ | refine LL.val (R.assign rfl rfl) rfl rfl rfl ?_ | refine LL.val (R.nil rfl rfl) rfl rfl rfl ?_ | refine LL.val (R.field rfl rfl (I.fld rfl)) rfl rfl rfl ?_ | refine LL.val (R.load rfl rfl (I.ld1 rfl (by assumption))) rfl rfl rfl ?_ | refine LL.val (R.load rfl rfl (I.ld1 rfl (RowL.cell (by assumption) rfl))) rfl rfl rfl ?_ | refine LL.val (R.index rfl rfl rfl (I.ixA1c rfl rfl (by first | omega | decide))) rfl rfl rfl ?_ | refine LL.val (R.index rfl rfl rfl (I.ixS1c rfl rfl (by omega))) rfl rfl rfl ?_ | refine LL.val (R.index rfl rfl rfl (I.ixAc rfl rfl (by first | omega | decide))) rfl rfl rfl ?_ | refine LL.val (R.index rfl rfl rfl (I.ixSc rfl rfl (by omega))) rfl rfl rfl ?_ | refine LL.val (R.index rfl rfl rfl (I.ixA1 rfl (by omega))) rfl rfl rfl ?_ | refine LL.val (R.index rfl rfl rfl (I.ixS1 rfl (by omega))) rfl rfl rfl ?_ | refine LL.val (R.index rfl rfl rfl (I.ixA rfl (by omega))) rfl rfl rfl ?_ | refine LL.val (R.index rfl rfl rfl (I.ixS rfl (by omega))) rfl rfl rfl ?_ | refine LL.val (R.ltT rfl rfl rfl (by omega)) rfl rfl rfl ?_ | refine LL.val (R.ltF rfl rfl rfl (by omega)) rfl rfl rfl ?_ | refine LL.val (R.addNc rfl rfl rfl rfl (by omega)) rfl rfl rfl ?_ | refine LL.val (R.subNc rfl rfl rfl rfl (by omega) (by omega)) rfl rfl rfl ?_ | refine LL.val (R.addN rfl rfl rfl (by omega)) rfl rfl rfl ?_ | refine LL.val (R.subN rfl rfl rfl (by omega) (by omega)) rfl rfl rfl ?_ | refine LL.val (R.subcN rfl rfl rfl rfl (by omega) (by omega)) rfl rfl rfl ?_ | refine LL.val (R.addI rfl rfl rfl (by omega)) rfl rfl rfl ?_ | refine LL.val (R.subI rfl rfl rfl (by omega)) rfl rfl rfl ?_ | refine LL.val (R.mulNc rfl rfl rfl rfl (by omega)) rfl rfl rfl ?_ | refine LL.val (R.mulcN rfl rfl rfl rfl (by omega)) rfl rfl rfl ?_ | refine LL.val (R.quoNc rfl rfl rfl rfl (by omega) (by omega)) rfl rfl rfl ?_ | refine LL.val (R.remNc rfl rfl rfl rfl (by omega)) rfl rfl rfl ?_ | refine LL.val (R.mulN rfl rfl rfl (by omega)) rfl rfl rfl ?_ | refine LL.val (R.quoN rfl rfl rfl (by omega) (by omega)) rfl rfl rfl ?_ | refine LL.val (R.remN rfl rfl rfl (by omega)) rfl rfl rfl ?_ | refine LL.val (R.leT rfl rfl rfl (by omega)) rfl rfl rfl ?_ | refine LL.val (R.leF rfl rfl rfl (by omega)) rfl rfl rfl ?_ | refine LL.val (R.gtT rfl rfl rfl (by omega)) rfl rfl rfl ?_ | refine LL.val (R.gtF rfl rfl rfl (by omega)) rfl rfl rfl ?_ | refine LL.val (R.geT rfl rfl rfl (by omega)) rfl rfl rfl ?_ | refine LL.val (R.geF rfl rfl rfl (by omega)) rfl rfl rfl ?_ | refine LL.val (R.eqT rfl rfl rfl (by omega)) rfl rfl rfl ?_ | refine LL.val (R.eqF rfl rfl rfl (by omega)) rfl rfl rfl ?_ | refine LL.val (R.neT rfl rfl rfl (by omega)) rfl rfl rfl ?_ | refine LL.val (R.neF rfl rfl rfl (by omega)) rfl rfl rfl ?_ | refine LL.val (R.eqPtr rfl rfl rfl rfl rfl) rfl rfl rfl ?_ | refine LL.val (R.nePtr rfl rfl rfl rfl rfl) rfl rfl rfl ?_ | refine LL.val (R.eqSl rfl rfl rfl rfl rfl) rfl rfl rfl ?_ | refine LL.val (R.neSl rfl rfl rfl rfl rfl) rfl rfl rfl ?_ | refine LL.val (R.eqFn rfl rfl rfl rfl) rfl rfl rfl ?_ | refine LL.val (R.eqBool rfl rfl rfl rfl rfl) rfl rfl rfl ?_ | refine LL.val (R.neBool rfl rfl rfl rfl rfl) rfl rfl rfl ?_ | refine LL.val (R.xorU rfl rfl rfl (by first | omega | decide) (by first | omega | decide)) rfl rfl rfl ?_ | refine LL.val (R.addUN rfl rfl rfl (by omega)) rfl rfl rfl ?_ | refine LL.val (R.not rfl rfl) rfl rfl rfl ?_ | refine LL.val (R.lenS rfl rfl rfl rfl) rfl rfl rfl ?_ | refine LL.val (R.len rfl rfl rfl rfl) rfl rfl rfl ?_ | refine LL.val (R.pick rfl rfl rfl) rfl rfl rfl ?_ | refine LL.val (R.extract rfl rfl rfl) rfl rfl rfl ?_ | refine LL.val (R.func rfl rfl rfl) rfl rfl rfl ?_ | refine LL.val (R.slice rfl rfl rfl rfl rfl (I.slA rfl)) rfl rfl rfl ?_ | refine LL.val (R.slice rfl rfl rfl rfl rfl (I.slAto rfl (by omega))) rfl rfl rfl ?_) | refine LL.skip rfl rfl ?_))
    refine EE.retM [.slice none 0 0, .int .i64 (n : Int)] rfl rfl ?_
    exact ⟨_, rfl, OwnsT.none _ _ _, q⟩
  rw [if_pos h0]
  have hl2 := pathN_long h0
  have hgs := glue_short h0
  obtain ⟨hsp, hsq⟩ := short_path h0
  obtain ⟨L, hL⟩ : ∃ L, glueL (partsL l) = L := ⟨_, rfl⟩
  rw [hL] at hsp hsq hgs
  have hpl := partsL_len l
  rw [h0, if_pos rfl, hL]
  (repeat (first | (first | refine CC.seq ?_ | refine CC.region ?_ | refine LL.nilS ?_ | refine CC.yes rfl ?_ | refine CC.no rfl ?_ | refine CC.block ?_ | refine EE.thenN ?_ | refine LL.nil ?_ | refine CC.exit ?_ | refine CC.ret ?_ | refine CC.skip ?_ | refine EE.thenX ?_ | refine EE.thenR ?_ | refine EE.inN ?_ | refine EE.inX ?_ | refine EE.inX' rfl ?_ | refine EE.inR ?_ | refine CC.label ?_ | refine EE.thenG ?_ | refine EE.inG ?_) | (first | refine LL.val (R.move rfl rfl) rfl rfl rfl ?_ | refine LL.val (R.assign rfl rfl) rfl rfl rfl ?_ | refine LL.val (R.nil rfl rfl) rfl rfl rfl ?_ | refine LL.val (R.field rfl rfl (I.fld rfl)) rfl rfl rfl ?_ | refine LL.val (R.load rfl rfl (I.ld1 rfl (by assumption))) rfl rfl rfl ?_ | refine LL.val (R.load rfl rfl (I.ld1 rfl (RowL.cell (by assumption) rfl))) rfl rfl rfl ?_ | refine LL.val (R.index rfl rfl rfl (I.ixA1c rfl rfl (by first | omega | decide))) rfl rfl rfl ?_ | refine LL.val (R.index rfl rfl rfl (I.ixS1c rfl rfl (by omega))) rfl rfl rfl ?_ | refine LL.val (R.index rfl rfl rfl (I.ixAc rfl rfl (by first | omega | decide))) rfl rfl rfl ?_ | refine LL.val (R.index rfl rfl rfl (I.ixSc rfl rfl (by omega))) rfl rfl rfl ?_ | refine LL.val (R.index rfl rfl rfl (I.ixA1 rfl (by omega))) rfl rfl rfl ?_ | refine LL.val (R.index rfl rfl rfl (I.ixS1 rfl (by omega))) rfl rfl rfl ?_ | refine LL.val (R.index rfl rfl rfl (I.ixA rfl (by omega))) rfl rfl rfl ?_ | refine LL.val (R.index rfl rfl rfl (I.ixS rfl (by omega))) rfl rfl rfl ?_ | refine LL.val (R.ltT rfl rfl rfl (by omega)) rfl rfl rfl ?_ | refine LL.val (R.ltF rfl rfl rfl (by omega)) rfl rfl rfl ?_ | refine LL.val (R.addNc rfl rfl rfl rfl (by omega)) rfl rfl rfl ?_ | refine LL.val (R.subNc rfl rfl rfl rfl (by omega) (by omega)) rfl rfl rfl ?_ | refine LL.val (R.addN rfl rfl rfl (by omega)) rfl rfl rfl ?_ | refine LL.val (R.subN rfl rfl rfl (by omega) (by omega)) rfl rfl rfl ?_ | refine LL.val (R.subcN rfl rfl rfl rfl (by omega) (by omega)) rfl rfl rfl ?_ | refine LL.val (R.addI rfl rfl rfl (by omega)) rfl rfl rfl ?_ | refine LL.val (R.subI rfl rfl rfl (by omega)) rfl rfl rfl ?_ | refine LL.val (R.mulNc rfl rfl rfl rfl (by omega)) rfl rfl rfl ?_ | refine LL.val (R.mulcN rfl rfl rfl rfl (by omega)) rfl rfl rfl ?_ | refine LL.val (R.quoNc rfl rfl rfl rfl (by omega) (by omega)) rfl rfl rfl ?_ | refine LL.val (R.remNc rfl rfl rfl rfl (by omega)) rfl rfl rfl ?_ | refine LL.val (R.mulN rfl rfl rfl (by omega)) rfl rfl rfl ?_ | refine LL.val (R.quoN rfl rfl rfl (by omega) (by omega)) rfl rfl rfl ?_ | refine LL.val (R.remN rfl rfl rfl (by omega)) rfl rfl rfl ?_ | refine LL.val (R.leT rfl rfl rfl (by omega)) rfl rfl rfl ?_ | refine LL.val (R.leF rfl rfl rfl (by omega)) rfl rfl rfl ?_ | refine LL.val (R.gtT rfl rfl rfl (by omega)) rfl rfl rfl ?_ | refine LL.val (R.gtF rfl rfl rfl (by omega)) rfl rfl rfl ?_ | refine LL.val (R.geT rfl rfl rfl (by omega)) rfl rfl rfl ?_ | refine LL.val (R.geF rfl rfl rfl (by omega)) rfl rfl rfl ?_ | refine LL.val (R.eqT rfl rfl rfl (by omega)) rfl rfl rfl ?_ | refine LL.val (R.eqF rfl rfl rfl (by omega)) rfl rfl rfl ?_ | refine LL.val (R.neT rfl rfl rfl (by omega)) rfl rfl rfl ?_ | refine LL.val (R.neF rfl rfl rfl (by omega)) rfl rfl rfl ?_ | refine LL.val (R.eqPtr rfl rfl rfl rfl rfl) rfl rfl rfl ?_ | refine LL.val (R.nePtr rfl rfl rfl rfl rfl) rfl rfl rfl ?_ | refine LL.val (R.eqSl rfl rfl rfl rfl rfl) rfl rfl rfl ?_ | refine LL.val (R.neSl rfl rfl rfl rfl rfl) rfl rfl rfl ?_ | refine LL.val (R.eqFn rfl rfl rfl rfl) rfl rfl rfl ?_ | refine LL.val (R.eqBool rfl rfl rfl rfl rfl) rfl rfl rfl ?_ | refine LL.val (R.neBool rfl rfl rfl rfl rfl) rfl rfl rfl ?_ | refine LL.val (R.xorU rfl rfl rfl (by first | omega | decide) (by first | omega | decide)) rfl rfl rfl ?_ | refine LL.val (R.addUN rfl rfl rfl (by omega)) rfl rfl rfl ?_ | refine LL.val (R.not rfl rfl) rfl rfl rfl ?_ | refine LL.val (R.lenS rfl rfl rfl rfl) rfl rfl rfl ?_ | refine LL.val (R.len rfl rfl rfl rfl) rfl rfl rfl ?_ | refine LL.val (R.pick rfl rfl rfl) rfl rfl rfl ?_ | refine LL.val (R.extract rfl rfl rfl) rfl rfl rfl ?_ | refine LL.val (R.func rfl rfl rfl) rfl rfl rfl ?_ | refine LL.val (R.slice rfl rfl rfl rfl rfl (I.slA rfl)) rfl rfl rfl ?_ | refine LL.val (R.slice rfl rfl rfl rfl rfl (I.slAto rfl (by omega))) rfl rfl rfl ?_) | refine LL.skip rfl rfl ?_))
  refine LL.alloc [.slice none 0 0] rfl rfl rfl rfl rfl ?_
  intro W g5 eg r5 zg b
  have hsz_ := b.size
  replace q := q.trans (b.mono q.size)
  replace hm := hm.up b
  have hg5 : w.heap.size ≤ g5 := by have := q.size; omega
  (repeat (first | (first | refine CC.seq ?_ | refine CC.region ?_ | refine LL.nilS ?_ | refine CC.yes rfl ?_ | refine CC.no rfl ?_ | refine CC.block ?_ | refine EE.thenN ?_ | refine LL.nil ?_ | refine CC.exit ?_ | refine CC.ret ?_ | refine CC.skip ?_ | refine EE.thenX ?_ | refine EE.thenR ?_ | refine EE.inN ?_ | refine EE.inX ?_ | refine EE.inX' rfl ?_ | refine EE.inR ?_ | refine CC.label ?_ | refine EE.thenG ?_ | refine EE.inG ?_) | (first | refine LL.val (R.move rfl rfl) rfl rfl rfl ?_ | refine LL.val (R.assign rfl rfl) rfl rfl rfl ?_ | refine LL.val (R.nil rfl rfl) rfl rfl rfl ?_ | refine LL.val (R.field rfl rfl (I.fld rfl)) rfl rfl rfl ?_ | refine LL.val (R.load rfl rfl (I.ld1 rfl (by assumption))) rfl rfl rfl ?_ | refine LL.val (R.load rfl rfl (I.ld1 rfl (RowL.cell (by assumption) rfl))) rfl rfl rfl ?_ | refine LL.val (R.index rfl rfl rfl (I.ixA1c rfl rfl (by first | omega | decide))) rfl rfl rfl ?_ | refine LL.val (R.index rfl rfl rfl (I.ixS1c rfl rfl (by omega))) rfl rfl rfl ?_ | refine LL.val (R.index rfl rfl rfl (I.ixAc rfl rfl (by first | omega | decide))) rfl rfl rfl ?_ | refine LL.val (R.index rfl rfl rfl (I.ixSc rfl rfl (by omega))) rfl rfl rfl ?_ | refine LL.val (R.index rfl rfl rfl (I.ixA1 rfl (by omega))) rfl rfl rfl ?_ | refine LL.val (R.index rfl rfl rfl (I.ixS1 rfl (by omega))) rfl rfl rfl ?_ | refine LL.val (R.index rfl rfl rfl (I.ixA rfl (by omega))) rfl rfl rfl ?_ | refine LL.val (R.index rfl rfl rfl (I.ixS rfl (by omega))) rfl rfl rfl ?_ | refine LL.val (R.ltT rfl rfl rfl (by omega)) rfl rfl rfl ?_ | refine LL.val (R.ltF rfl rfl rfl (by omega)) rfl rfl rfl ?_ | refine LL.val (R.addNc rfl rfl rfl rfl (by omega)) rfl rfl rfl ?_ | refine LL.val (R.subNc rfl rfl rfl rfl (by omega) (by omega)) rfl rfl rfl ?_ | refine LL.val (R.addN rfl rfl rfl (by omega)) rfl rfl rfl ?_ | refine LL.val (R.subN rfl rfl rfl (by omega) (by omega)) rfl rfl rfl ?_ | refine LL.val (R.subcN rfl rfl rfl rfl (by omega) (by omega)) rfl rfl rfl ?_ | refine LL.val (R.addI rfl rfl rfl (by omega)) rfl rfl rfl ?_ | refine LL.val (R.subI rfl rfl rfl (by omega)) rfl rfl rfl ?_ | refine LL.val (R.mulNc rfl rfl rfl rfl (by omega)) rfl rfl rfl ?_ | refine LL.val (R.mulcN rfl rfl rfl rfl (by omega)) rfl rfl rfl ?_ | refine LL.val (R.quoNc rfl rfl rfl rfl (by omega) (by omega)) rfl rfl rfl ?_ | refine LL.val (R.remNc rfl rfl rfl rfl (by omega)) rfl rfl rfl ?_ | refine LL.val (R.mulN rfl rfl rfl (by omega)) rfl rfl rfl ?_ | refine LL.val (R.quoN rfl rfl rfl (by omega) (by omega)) rfl rfl rfl ?_ | refine LL.val (R.remN rfl rfl rfl (by omega)) rfl rfl rfl ?_ | refine LL.val (R.leT rfl rfl rfl (by omega)) rfl rfl rfl ?_ | refine LL.val (R.leF rfl rfl rfl (by omega)) rfl rfl rfl ?_ | refine LL.val (R.gtT rfl rfl rfl (by omega)) rfl rfl rfl ?_ | refine LL.val (R.gtF rfl rfl rfl (by omega)) rfl rfl rfl ?_ | refine LL.val (R.geT rfl rfl rfl (by omega)) rfl rfl rfl ?_ | refine LL.val (R.geF rfl rfl rfl (by omega)) rfl rfl rfl ?_ | refine LL.val (R.eqT rfl rfl rfl (by omega)) rfl rfl rfl ?_ | refine LL.val (R.eqF rfl rfl rfl (by omega)) rfl rfl rfl ?_ | refine LL.val (R.neT rfl rfl rfl (by omega)) rfl rfl rfl ?_ | refine LL.val (R.neF rfl rfl rfl (by omega)) rfl rfl rfl ?_ | refine LL.val (R.eqPtr rfl rfl rfl rfl rfl) rfl rfl rfl ?_ | refine LL.val (R.nePtr rfl rfl rfl rfl rfl) rfl rfl rfl ?_ | refine LL.val (R.eqSl rfl rfl rfl rfl rfl) rfl rfl rfl ?_ | refine LL.val (R.neSl rfl rfl rfl rfl rfl) rfl rfl rfl ?_ | refine LL.val (R.eqFn rfl rfl rfl rfl) rfl rfl rfl ?_ | refine LL.val (R.eqBool rfl rfl rfl rfl rfl) rfl rfl rfl ?_ | refine LL.val (R.neBool rfl rfl rfl rfl rfl) rfl rfl rfl ?_ | refine LL.val (R.xorU rfl rfl rfl (by first | omega | decide) (by first | omega | decide)) rfl rfl rfl ?_ | refine LL.val (R.addUN rfl rfl rfl (by omega)) rfl rfl rfl ?_ | refine LL.val (R.not rfl rfl) rfl rfl rfl ?_ | refine LL.val (R.lenS rfl rfl rfl rfl) rfl rfl rfl ?_ | refine LL.val (R.len rfl rfl rfl rfl) rfl rfl rfl ?_ | refine LL.val (R.pick rfl rfl rfl) rfl rfl rfl ?_ | refine LL.val (R.extract rfl rfl rfl) rfl rfl rfl ?_ | refine LL.val (R.func rfl rfl rfl) rfl rfl rfl ?_ | refine LL.val (R.slice rfl rfl rfl rfl rfl (I.slA rfl)) rfl rfl rfl ?_ | refine LL.val (R.slice rfl rfl rfl rfl rfl (I.slAto rfl (by omega))) rfl rfl rfl ?_) | refine LL.skip rfl rfl ?_))
  refine LL.call (R.call rfl rfl rfl) rfl rfl rfl (each_any L _ hm (by omega)) ?_
  rintro e W ⟨b2, rfl, rb, _, b⟩
  refine ⟨_, rfl, ?_⟩
  have hsz_ := b.size
  replace q := q.trans (b.mono q.size)
  replace r5 := r5.up b
  replace hm := hm.up b
  rw [if_pos hsp] at rb
  obtain ⟨WR, rfl⟩ : ∃ X, X = W := ⟨_, rfl⟩
  have hg5l := r5.lt
  have hq0 := q.size
  (repeat (first | (first | refine CC.seq ?_ | refine CC.region ?_ | refine LL.nilS ?_ | refine CC.yes rfl ?_ | refine CC.no rfl ?_ | refine CC.block ?_ | refine EE.thenN ?_ | refine LL.nil ?_ | refine CC.exit ?_ | refine CC.ret ?_ | refine CC.skip ?_ | refine EE.thenX ?_ | refine EE.thenR ?_ | refine EE.inN ?_ | refine EE.inX ?_ | refine EE.inX' rfl ?_ | refine EE.inR ?_ | refine CC.label ?_ | refine EE.thenG ?_ | refine EE.inG ?_) | (first | refine LL.val (R.move rfl rfl) rfl rfl rfl ?_ | refine LL.val (R.assign rfl rfl) rfl rfl rfl ?_ | refine LL.val (R.nil rfl rfl) rfl rfl rfl ?_ | refine LL.val (R.field rfl rfl (I.fld rfl)) rfl rfl rfl ?_ | refine LL.val (R.load rfl rfl (I.ld1 rfl (by assumption))) rfl rfl rfl ?_ | refine LL.val (R.load rfl rfl (I.ld1 rfl (RowL.cell (by assumption) rfl))) rfl rfl rfl ?_ | refine LL.val (R.index rfl rfl rfl (I.ixA1c rfl rfl (by first | omega | decide))) rfl rfl rfl ?_ | refine LL.val (R.index rfl rfl rfl (I.ixS1c rfl rfl (by omega))) rfl rfl rfl ?_ | refine LL.val (R.index rfl rfl rfl (I.ixAc rfl rfl (by first | omega | decide))) rfl rfl rfl ?_ | refine LL.val (R.index rfl rfl rfl (I.ixSc rfl rfl (by omega))) rfl rfl rfl ?_ | refine LL.val (R.index rfl rfl rfl (I.ixA1 rfl (by omega))) rfl rfl rfl ?_ | refine LL.val (R.index rfl rfl rfl (I.ixS1 rfl (by omega))) rfl rfl rfl ?_ | refine LL.val (R.index rfl rfl rfl (I.ixA rfl (by omega))) rfl rfl rfl ?_ | refine LL.val (R.index rfl rfl rfl (I.ixS rfl (by omega))) rfl rfl rfl ?_ | refine LL.val (R.ltT rfl rfl rfl (by omega)) rfl rfl rfl ?_ | refine LL.val (R.ltF rfl rfl rfl (by omega)) rfl rfl rfl ?_ | refine LL.val (R.addNc rfl rfl rfl rfl (by omega)) rfl rfl rfl ?_ | refine LL.val (R.subNc rfl rfl rfl rfl (by omega) (by omega)) rfl rfl rfl ?_ | refine LL.val (R.addN rfl rfl rfl (by omega)) rfl rfl rfl ?_ | refine LL.val (R.subN rfl rfl rfl (by omega) (by omega)) rfl rfl rfl ?_ | refine LL.val (R.subcN rfl rfl rfl rfl (by omega) (by omega)) rfl rfl rfl ?_ | refine LL.val (R.addI rfl rfl rfl (by omega)) rfl rfl rfl ?_ | refine LL.val (R.subI rfl rfl rfl (by omega)) rfl rfl rfl ?_ | refine LL.val (R.mulNc rfl rfl rfl rfl (by omega)) rfl rfl rfl ?_ | refine LL.val (R.mulcN rfl rfl rfl rfl (by omega)) rfl rfl rfl ?_ | refine LL.val (R.quoNc rfl rfl rfl rfl (by omega) (by omega)) rfl rfl rfl ?_ | refine LL.val (R.remNc rfl rfl rfl rfl (by omega)) rfl rfl rfl ?_ | refine LL.val (R.mulN rfl rfl rfl (by omega)) rfl rfl rfl ?_ | refine LL.val (R.quoN rfl rfl rfl (by omega) (by omega)) rfl rfl rfl ?_ | refine LL.val (R.remN rfl rfl rfl (by omega)) rfl rfl rfl ?_ | refine LL.val (R.leT rfl rfl rfl (by omega)) rfl rfl rfl ?_ | refine LL.val (R.leF rfl rfl rfl (by omega)) rfl rfl rfl ?_ | refine LL.val (R.gtT rfl rfl rfl (by omega)) rfl rfl rfl ?_ | refine LL.val (R.gtF rfl rfl rfl (by omega)) rfl rfl rfl ?_ | refine LL.val (R.geT rfl rfl rfl (by omega)) rfl rfl rfl ?_ | refine LL.val (R.geF rfl rfl rfl (by omega)) rfl rfl rfl ?_ | refine LL.val (R.eqT rfl rfl rfl (by omega)) rfl rfl rfl ?_ | refine LL.val (R.eqF rfl rfl rfl (by omega)) rfl rfl rfl ?_ | refine LL.val (R.neT rfl rfl rfl (by omega)) rfl rfl rfl ?_ | refine LL.val (R.neF rfl rfl rfl (by omega)) rfl rfl rfl ?_ | refine LL.val (R.eqPtr rfl rfl rfl rfl rfl) rfl rfl rfl ?_ | refine LL.val (R.nePtr rfl rfl rfl rfl rfl) rfl rfl rfl ?_ | refine LL.val (R.eqSl rfl rfl rfl rfl rfl) rfl rfl rfl ?_ | refine LL.val (R.neSl rfl rfl rfl rfl rfl) rfl rfl rfl ?_ | refine LL.val (R.eqFn rfl rfl rfl rfl) rfl rfl rfl ?_ | refine LL.val (R.eqBool rfl rfl rfl rfl rfl) rfl rfl rfl ?_ | refine LL.val (R.neBool rfl rfl rfl rfl rfl) rfl rfl rfl ?_ | refine LL.val (R.xorU rfl rfl rfl (by first | omega | decide) (by first | omega | decide)) rfl rfl rfl ?_ | refine LL.val (R.addUN rfl rfl rfl (by omega)) rfl rfl rfl ?_ | refine LL.val (R.not rfl rfl) rfl rfl rfl ?_ | refine LL.val (R.lenS rfl rfl rfl rfl) rfl rfl rfl ?_ | refine LL.val (R.len rfl rfl rfl rfl) rfl rfl rfl ?_ | refine LL.val (R.pick rfl rfl rfl) rfl rfl rfl ?_ | refine LL.val (R.extract rfl rfl rfl) rfl rfl rfl ?_ | refine LL.val (R.func rfl rfl rfl) rfl rfl rfl ?_ | refine LL.val (R.slice rfl rfl rfl rfl rfl (I.slA rfl)) rfl rfl rfl ?_ | refine LL.val (R.slice rfl rfl rfl rfl rfl (I.slAto rfl (by omega))) rfl rfl rfl ?_) | refine LL.skip rfl rfl ?_))
  refine CC.rangeM (γ := Unit) (gf := 60) (lb := [Value.pointer (some ⟨b2, 0, none⟩)]) (encs := encP) rfl rfl (pieces_gives b2 L WR rb hm (by omega)) (Below.refl _ _) (fun k hk => hk.elim) (fun _ => rfl) rfl
    (fun m pre W' => Below w.heap.size w W' ∧ ∃ v, RowL W' g5 28 [v] ∧ OwnsT stE 1 W' w.heap.size 9 v (pre.map (·.2)) ∧ (∀ b, v.ownBlock = some b → (b < WR.heap.size ∨ m ≤ b) ∧ b ≠ g5))
    (fun m pre W' => False)
    (fun W' => Below w.heap.size w W' ∧ ∃ v, RowL W' g5 28 [v] ∧ OwnsT stE 1 W' w.heap.size 9 v (partsL l) ∧ v.ownBlock ≠ some g5)
    ?hI (fun m s X Y hs ht => hs) (fun m => ⟨q, .slice none 0 0, r5, OwnsT.none _ _ _, fun b hb => by cases hb⟩) ?hIA (fun m pre W' hp hi => hi.elim)
    (fun x _ => sl [(6, .pointer (some ⟨g5, 0, none⟩)), (8, strV x.2)]) (fun x _ W' => True) (fun x _ => fun _ _ _ _ _ _ _ => trivial) ?assign ?body ?after
  case hI =>
    rintro m s X Y ⟨h1, v, h2, h3, h4⟩ ht
    exact ⟨h1.trans (ht.below hq0 h1.size), v, ht.same g5 _ h2 (.inl hg5l), ownsT_turns h3 (fun b hb => (h4 b hb).1) ht, h4⟩
  case hIA =>
    rintro m xs W' rfl ⟨h1, v, h2, h3, h4⟩
    rw [numB_snd, hsq] at h3
    exact ⟨h1, v, h2, h3, fun e => (h4 g5 e).2 rfl⟩
  case assign =>
    intro l' m pre x W K hm' hm2 hi hK
    (repeat (first | (first | refine CC.seq ?_ | refine CC.region ?_ | refine LL.nilS ?_ | refine CC.yes rfl ?_ | refine CC.no rfl ?_ | refine CC.block ?_ | refine EE.thenN ?_ | refine LL.nil ?_ | refine CC.exit ?_ | refine CC.ret ?_ | refine CC.skip ?_ | refine EE.thenX ?_ | refine EE.thenR ?_ | refine EE.inN ?_ | refine EE.inX ?_ | refine EE.inX' rfl ?_ | refine EE.inR ?_ | refine CC.label ?_ | refine EE.thenG ?_ | refine EE.inG ?_) | (first | refine LL.val (R.move rfl rfl) rfl rfl rfl ?_ | refine LL.val (R.assign rfl rfl) rfl rfl rfl ?_ | refine LL.val (R.nil rfl rfl) rfl rfl rfl ?_ | refine LL.val (R.field rfl rfl (I.fld rfl)) rfl rfl rfl ?_ | refine LL.val (R.load rfl rfl (I.ld1 rfl (by assumption))) rfl rfl rfl ?_ | refine LL.val (R.load rfl rfl (I.ld1 rfl (RowL.cell (by assumption) rfl))) rfl rfl rfl ?_ | refine LL.val (R.index rfl rfl rfl (I.ixA1c rfl rfl (by first | omega | decide))) rfl rfl rfl ?_ | refine LL.val (R.index rfl rfl rfl (I.ixS1c rfl rfl (by omega))) rfl rfl rfl ?_ | refine LL.val (R.index rfl rfl rfl (I.ixAc rfl rfl (by first | omega | decide))) rfl rfl rfl ?_ | refine LL.val (R.index rfl rfl rfl (I.ixSc rfl rfl (by omega))) rfl rfl rfl ?_ | refine LL.val (R.index rfl rfl rfl (I.ixA1 rfl (by omega))) rfl rfl rfl ?_ | refine LL.val (R.index rfl rfl rfl (I.ixS1 rfl (by omega))) rfl rfl rfl ?_ | refine LL.val (R.index rfl rfl rfl (I.ixA rfl (by omega))) rfl rfl rfl ?_ | refine LL.val (R.index rfl rfl rfl (I.ixS rfl (by omega))) rfl rfl rfl ?_ | refine LL.val (R.ltT rfl rfl rfl (by omega)) rfl rfl rfl ?_ | refine LL.val (R.ltF rfl rfl rfl (by omega)) rfl rfl rfl ?_ | refine LL.val (R.addNc rfl rfl rfl rfl (by omega)) rfl rfl rfl ?_ | refine LL.val (R.subNc rfl rfl rfl rfl (by omega) (by omega)) rfl rfl rfl ?_ | refine LL.val (R.addN rfl rfl rfl (by omega)) rfl rfl rfl ?_ | refine LL.val (R.subN rfl rfl rfl (by omega) (by omega)) rfl rfl rfl ?_ | refine LL.val (R.subcN rfl rfl rfl rfl (by omega) (by omega)) rfl rfl rfl ?_ | refine LL.val (R.addI rfl rfl rfl (by omega)) rfl rfl rfl ?_ | refine LL.val (R.subI rfl rfl rfl (by omega)) rfl rfl rfl ?_ | refine LL.val (R.mulNc rfl rfl rfl rfl (by omega)) rfl rfl rfl ?_ | refine LL.val (R.mulcN rfl rfl rfl rfl (by omega)) rfl rfl rfl ?_ | refine LL.val (R.quoNc rfl rfl rfl rfl (by omega) (by omega)) rfl rfl rfl ?_ | refine LL.val (R.remNc rfl rfl rfl rfl (by omega)) rfl rfl rfl ?_ | refine LL.val (R.mulN rfl rfl rfl (by omega)) rfl rfl rfl ?_ | refine LL.val (R.quoN rfl rfl rfl (by omega) (by omega)) rfl rfl rfl ?_ | refine LL.val (R.remN rfl rfl rfl (by omega)) rfl rfl rfl ?_ | refine LL.val (R.leT rfl rfl rfl (by omega)) rfl rfl rfl ?_ | refine LL.val (R.leF rfl rfl rfl (by omega)) rfl rfl rfl ?_ | refine LL.val (R.gtT rfl rfl rfl (by omega)) rfl rfl rfl ?_ | refine LL.val (R.gtF rfl rfl rfl (by omega)) rfl rfl rfl ?_ | refine LL.val (R.geT rfl rfl rfl (by omega)) rfl rfl rfl ?_ | refine LL.val (R.geF rfl rfl rfl (by omega)) rfl rfl rfl ?_ | refine LL.val (R.eqT rfl rfl rfl (by omega)) rfl rfl rfl ?_ | refine LL.val (R.eqF rfl rfl rfl (by omega)) rfl rfl rfl ?_ | refine LL.val (R.neT rfl rfl rfl (by omega)) rfl rfl rfl ?_ | refine LL.val (R.neF rfl rfl rfl (by omega)) rfl rfl rfl ?_ | refine LL.val (R.eqPtr rfl rfl rfl rfl rfl) rfl rfl rfl ?_ | refine LL.val (R.nePtr rfl rfl rfl rfl rfl) rfl rfl rfl ?_ | refine LL.val (R.eqSl rfl rfl rfl rfl rfl) rfl rfl rfl ?_ | refine LL.val (R.neSl rfl rfl rfl rfl rfl) rfl rfl rfl ?_ | refine LL.val (R.eqFn rfl rfl rfl rfl) rfl rfl rfl ?_ | refine LL.val (R.eqBool rfl rfl rfl rfl rfl) rfl rfl rfl ?_ | refine LL.val (R.neBool rfl rfl rfl rfl rfl) rfl rfl rfl ?_ | refine LL.val (R.xorU rfl rfl rfl (by first | omega | decide) (by first | omega | decide)) rfl rfl rfl ?_ | refine LL.val (R.addUN rfl rfl rfl (by omega)) rfl rfl rfl ?_ | refine LL.val (R.not rfl rfl) rfl rfl rfl ?_ | refine LL.val (R.lenS rfl rfl rfl rfl) rfl rfl rfl ?_ | refine LL.val (R.len rfl rfl rfl rfl) rfl rfl rfl ?_ | refine LL.val (R.pick rfl rfl rfl) rfl rfl rfl ?_ | refine LL.val (R.extract rfl rfl rfl) rfl rfl rfl ?_ | refine LL.val (R.func rfl rfl rfl) rfl rfl rfl ?_ | refine LL.val (R.slice rfl rfl rfl rfl rfl (I.slA rfl)) rfl rfl rfl ?_ | refine LL.val (R.slice rfl rfl rfl rfl rfl (I.slAto rfl (by omega))) rfl rfl rfl ?_) | refine LL.skip rfl rfl ?_))
    exact EE.thenK fun a' F => hK a' W () (Stays.refl _ _ _) (Keeps.refl _ _) hi (F.keep _ ⟨rfl, rfl, trivial⟩) trivial
  case body =>
    intro l' m pre x _ W hm' hm2 hl' hrl hi hax hp
    obtain ⟨h1, v, h2, h3, h4⟩ := hi
    have hpl2 := (numB_part hp).2.1
    rw [hsq] at hpl2
    have hpl3 : pre.length < (partsL l).length := (List.getElem?_eq_some_iff.1 hpl2).1
    have hy1 := h1.size
    have hgW := h2.lt
    have c5 := h2.cell (j := 0) rfl
    (repeat (first | (first | refine CC.seq ?_ | refine CC.region ?_ | refine LL.nilS ?_ | refine CC.yes rfl ?_ | refine CC.no rfl ?_ | refine CC.block ?_ | refine EE.thenN ?_ | refine LL.nil ?_ | refine CC.exit ?_ | refine CC.ret ?_ | refine CC.skip ?_ | refine EE.thenX ?_ | refine EE.thenR ?_ | refine EE.inN ?_ | refine EE.inX ?_ | refine EE.inX' rfl ?_ | refine EE.inR ?_ | refine CC.label ?_ | refine EE.thenG ?_ | refine EE.inG ?_) | (first | refine LL.val (R.move rfl rfl) rfl rfl rfl ?_ | refine LL.val (R.assign rfl rfl) rfl rfl rfl ?_ | refine LL.val (R.nil rfl rfl) rfl rfl rfl ?_ | refine LL.val (R.field rfl rfl (I.fld rfl)) rfl rfl rfl ?_ | refine LL.val (R.load rfl rfl (I.ld1 rfl (by assumption))) rfl rfl rfl ?_ | refine LL.val (R.load rfl rfl (I.ld1 rfl (RowL.cell (by assumption) rfl))) rfl rfl rfl ?_ | refine LL.val (R.index rfl rfl rfl (I.ixA1c rfl rfl (by first | omega | decide))) rfl rfl rfl ?_ | refine LL.val (R.index rfl rfl rfl (I.ixS1c rfl rfl (by omega))) rfl rfl rfl ?_ | refine LL.val (R.index rfl rfl rfl (I.ixAc rfl rfl (by first | omega | decide))) rfl rfl rfl ?_ | refine LL.val (R.index rfl rfl rfl (I.ixSc rfl rfl (by omega))) rfl rfl rfl ?_ | refine LL.val (R.index rfl rfl rfl (I.ixA1 rfl (by omega))) rfl rfl rfl ?_ | refine LL.val (R.index rfl rfl rfl (I.ixS1 rfl (by omega))) rfl rfl rfl ?_ | refine LL.val (R.index rfl rfl rfl (I.ixA rfl (by omega))) rfl rfl rfl ?_ | refine LL.val (R.index rfl rfl rfl (I.ixS rfl (by omega))) rfl rfl rfl ?_ | refine LL.val (R.ltT rfl rfl rfl (by omega)) rfl rfl rfl ?_ | refine LL.val (R.ltF rfl rfl rfl (by omega)) rfl rfl rfl ?_ | refine LL.val (R.addNc rfl rfl rfl rfl (by omega)) rfl rfl rfl ?_ | refine LL.val (R.subNc rfl rfl rfl rfl (by omega) (by omega)) rfl rfl rfl ?_ | refine LL.val (R.addN rfl rfl rfl (by omega)) rfl rfl rfl ?_ | refine LL.val (R.subN rfl rfl rfl (by omega) (by omega)) rfl rfl rfl ?_ | refine LL.val (R.subcN rfl rfl rfl rfl (by omega) (by omega)) rfl rfl rfl ?_ | refine LL.val (R.addI rfl rfl rfl (by omega)) rfl rfl rfl ?_ | refine LL.val (R.subI rfl rfl rfl (by omega)) rfl rfl rfl ?_ | refine LL.val (R.mulNc rfl rfl rfl rfl (by omega)) rfl rfl rfl ?_ | refine LL.val (R.mulcN rfl rfl rfl rfl (by omega)) rfl rfl rfl ?_ | refine LL.val (R.quoNc rfl rfl rfl rfl (by omega) (by omega)) rfl rfl rfl ?_ | refine LL.val (R.remNc rfl rfl rfl rfl (by omega)) rfl rfl rfl ?_ | refine LL.val (R.mulN rfl rfl rfl (by omega)) rfl rfl rfl ?_ | refine LL.val (R.quoN rfl rfl rfl (by omega) (by omega)) rfl rfl rfl ?_ | refine LL.val (R.remN rfl rfl rfl (by omega)) rfl rfl rfl ?_ | refine LL.val (R.leT rfl rfl rfl (by omega)) rfl rfl rfl ?_ | refine LL.val (R.leF rfl rfl rfl (by omega)) rfl rfl rfl ?_ | refine LL.val (R.gtT rfl rfl rfl (by omega)) rfl rfl rfl ?_ | refine LL.val (R.gtF rfl rfl rfl (by omega)) rfl rfl rfl ?_ | refine LL.val (R.geT rfl rfl rfl (by omega)) rfl rfl rfl ?_ | refine LL.val (R.geF rfl rfl rfl (by omega)) rfl rfl rfl ?_ | refine LL.val (R.eqT rfl rfl rfl (by omega)) rfl rfl rfl ?_ | refine LL.val (R.eqF rfl rfl rfl (by omega)) rfl rfl rfl ?_ | refine LL.val (R.neT rfl rfl rfl (by omega)) rfl rfl rfl ?_ | refine LL.val (R.neF rfl rfl rfl (by omega)) rfl rfl rfl ?_ | refine LL.val (R.eqPtr rfl rfl rfl rfl rfl) rfl rfl rfl ?_ | refine LL.val (R.nePtr rfl rfl rfl rfl rfl) rfl rfl rfl ?_ | refine LL.val (R.eqSl rfl rfl rfl rfl rfl) rfl rfl rfl ?_ | refine LL.val (R.neSl rfl rfl rfl rfl rfl) rfl rfl rfl ?_ | refine LL.val (R.eqFn rfl rfl rfl rfl) rfl rfl rfl ?_ | refine LL.val (R.eqBool rfl rfl rfl rfl rfl) rfl rfl rfl ?_ | refine LL.val (R.neBool rfl rfl rfl rfl rfl) rfl rfl rfl ?_ | refine LL.val (R.xorU rfl rfl rfl (by first | omega | decide) (by first | omega | decide)) rfl rfl rfl ?_ | refine LL.val (R.addUN rfl rfl rfl (by omega)) rfl rfl rfl ?_ | refine LL.val (R.not rfl rfl) rfl rfl rfl ?_ | refine LL.val (R.lenS rfl rfl rfl rfl) rfl rfl rfl ?_ | refine LL.val (R.len rfl rfl rfl rfl) rfl rfl rfl ?_ | refine LL.val (R.pick rfl rfl rfl) rfl rfl rfl ?_ | refine LL.val (R.extract rfl rfl rfl) rfl rfl rfl ?_ | refine LL.val (R.func rfl rfl rfl) rfl rfl rfl ?_ | refine LL.val (R.slice rfl rfl rfl rfl rfl (I.slA rfl)) rfl rfl rfl ?_ | refine LL.val (R.slice rfl rfl rfl rfl rfl (I.slAto rfl (by omega))) rfl rfl rfl ?_) | refine LL.skip rfl rfl ?_))
    refine LL.lit (e := 9) (stE x.2) 1 rfl rfl (fun _ => by kernel_rfl) rfl rfl ?_
    intro W2 g eg r zg b
    have rd : ReadsT stE 1 W2 (.slice (some ⟨g, 0, none⟩) 1 1) [x.2] := RowL.readsT (ts := [x.2]) stEnc (by simpa using r) 1 (by simp)
    have hlm : (pre.map (·.2)).length = pre.length := by simp
    refine LL.appendT2 rfl rfl stEnc ElS (h3.up b) rd (by rw [hlm]; simp only [List.length_singleton, maxLen]; omega) (by rw [hlm]; simp only [List.length_singleton]; omega) (by have := b.size; omega) rfl rfl ?_
    intro v' W3 o3 g3 hwhere
    have b3 : W.heap.size ≤ W2.heap.size := b.size
    have b23 := g3.size
    have hvo : ∀ bb, v'.ownBlock = some bb → (bb < WR.heap.size ∨ m ≤ bb) ∧ bb ≠ g5 := fun bb hbb => by
      rcases hwhere with he | ⟨b', he, hge⟩
      · rw [he] at hbb; exact h4 bb hbb
      · rw [he] at hbb; cases hbb; exact ⟨.inr (by omega), by omega⟩
    have h2' : RowL W3 g5 28 [v] := (h2.up b).same (g3.block g5 (by omega) (by intro e; exact (h4 g5 e.symm).2 rfl))
    have hst2 : Stays WR.heap.size m W W2 := Stays.of_below b
    have hst3 : Stays WR.heap.size m W2 W3 := ⟨g3.size, fun k o hk ho hc => by
      have hkl : k < W2.heap.size := (Array.getElem?_eq_some_iff.1 ho).1
      rw [g3.block k hkl (fun e => ?_)]
      · exact ho
      · rcases h4 k e.symm with ⟨h5 | h5, _⟩
        · omega
        · rcases hc with h6 | h6
          · omega
          · obtain ⟨_, h7⟩ := (h3.up b).above.resolve_left (by rw [← e]; simp)
            rcases (h3.up b).2 with ⟨e1, _⟩ | ⟨g', cap', cur, e1, _, hg', _⟩
            · rw [e1] at e; cases e
            · rw [e1] at e; cases e
              rw [hg'] at ho
              cases ho
              cases h6⟩
    obtain ⟨a', cp', rfl, _⟩ := (o3.reads stEnc).form rfl
    refine LL.store rfl rfl rfl rfl h2' (by exact Nat.le_of_ble_eq_true rfl) rfl rfl rfl rfl ?_
    intro W4 r4 g4 z4
    have hb3 : Below w.heap.size w W3 := (h1.trans (b.mono h1.size)).trans ((h3.up b).bel g3 (by omega))
    (repeat (first | (first | refine CC.seq ?_ | refine CC.region ?_ | refine LL.nilS ?_ | refine CC.yes rfl ?_ | refine CC.no rfl ?_ | refine CC.block ?_ | refine EE.thenN ?_ | refine LL.nil ?_ | refine CC.exit ?_ | refine CC.ret ?_ | refine CC.skip ?_ | refine EE.thenX ?_ | refine EE.thenR ?_ | refine EE.inN ?_ | refine EE.inX ?_ | refine EE.inX' rfl ?_ | refine EE.inR ?_ | refine CC.label ?_ | refine EE.thenG ?_ | refine EE.inG ?_) | (first | refine LL.val (R.move rfl rfl) rfl rfl rfl ?_ | refine LL.val (R.assign rfl rfl) rfl rfl rfl ?_ | refine LL.val (R.nil rfl rfl) rfl rfl rfl ?_ | refine LL.val (R.field rfl rfl (I.fld rfl)) rfl rfl rfl ?_ | refine LL.val (R.load rfl rfl (I.ld1 rfl (by assumption))) rfl rfl rfl ?_ | refine LL.val (R.load rfl rfl (I.ld1 rfl (RowL.cell (by assumption) rfl))) rfl rfl rfl ?_ | refine LL.val (R.index rfl rfl rfl (I.ixA1c rfl rfl (by first | omega | decide))) rfl rfl rfl ?_ | refine LL.val (R.index rfl rfl rfl (I.ixS1c rfl rfl (by omega))) rfl rfl rfl ?_ | refine LL.val (R.index rfl rfl rfl (I.ixAc rfl rfl (by first | omega | decide))) rfl rfl rfl ?_ | refine LL.val (R.index rfl rfl rfl (I.ixSc rfl rfl (by omega))) rfl rfl rfl ?_ | refine LL.val (R.index rfl rfl rfl (I.ixA1 rfl (by omega))) rfl rfl rfl ?_ | refine LL.val (R.index rfl rfl rfl (I.ixS1 rfl (by omega))) rfl rfl rfl ?_ | refine LL.val (R.index rfl rfl rfl (I.ixA rfl (by omega))) rfl rfl rfl ?_ | refine LL.val (R.index rfl rfl rfl (I.ixS rfl (by omega))) rfl rfl rfl ?_ | refine LL.val (R.ltT rfl rfl rfl (by omega)) rfl rfl rfl ?_ | refine LL.val (R.ltF rfl rfl rfl (by omega)) rfl rfl rfl ?_ | refine LL.val (R.addNc rfl rfl rfl rfl (by omega)) rfl rfl rfl ?_ | refine LL.val (R.subNc rfl rfl rfl rfl (by omega) (by omega)) rfl rfl rfl ?_ | refine LL.val (R.addN rfl rfl rfl (by omega)) rfl rfl rfl ?_ | refine LL.val (R.subN rfl rfl rfl (by omega) (by omega)) rfl rfl rfl ?_ | refine LL.val (R.subcN rfl rfl rfl rfl (by omega) (by omega)) rfl rfl rfl ?_ | refine LL.val (R.addI rfl rfl rfl (by omega)) rfl rfl rfl ?_ | refine LL.val (R.subI rfl rfl rfl (by omega)) rfl rfl rfl ?_ | refine LL.val (R.mulNc rfl rfl rfl rfl (by omega)) rfl rfl rfl ?_ | refine LL.val (R.mulcN rfl rfl rfl rfl (by omega)) rfl rfl rfl ?_ | refine LL.val (R.quoNc rfl rfl rfl rfl (by omega) (by omega)) rfl rfl rfl ?_ | refine LL.val (R.remNc rfl rfl rfl rfl (by omega)) rfl rfl rfl ?_ | refine LL.val (R.mulN rfl rfl rfl (by omega)) rfl rfl rfl ?_ | refine LL.val (R.quoN rfl rfl rfl (by omega) (by omega)) rfl rfl rfl ?_ | refine LL.val (R.remN rfl rfl rfl (by omega)) rfl rfl rfl ?_ | refine LL.val (R.leT rfl rfl rfl (by omega)) rfl rfl rfl ?_ | refine LL.val (R.leF rfl rfl rfl (by omega)) rfl rfl rfl ?_ | refine LL.val (R.gtT rfl rfl rfl (by omega)) rfl rfl rfl ?_ | refine LL.val (R.gtF rfl rfl rfl (by omega)) rfl rfl rfl ?_ | refine LL.val (R.geT rfl rfl rfl (by omega)) rfl rfl rfl ?_ | refine LL.val (R.geF rfl rfl rfl (by omega)) rfl rfl rfl ?_ | refine LL.val (R.eqT rfl rfl rfl (by omega)) rfl rfl rfl ?_ | refine LL.val (R.eqF rfl rfl rfl (by omega)) rfl rfl rfl ?_ | refine LL.val (R.neT rfl rfl rfl (by omega)) rfl rfl rfl ?_ | refine LL.val (R.neF rfl rfl rfl (by omega)) rfl rfl rfl ?_ | refine LL.val (R.eqPtr rfl rfl rfl rfl rfl) rfl rfl rfl ?_ | refine LL.val (R.nePtr rfl rfl rfl rfl rfl) rfl rfl rfl ?_ | refine LL.val (R.eqSl rfl rfl rfl rfl rfl) rfl rfl rfl ?_ | refine LL.val (R.neSl rfl rfl rfl rfl rfl) rfl rfl rfl ?_ | refine LL.val (R.eqFn rfl rfl rfl rfl) rfl rfl rfl ?_ | refine LL.val (R.eqBool rfl rfl rfl rfl rfl) rfl rfl rfl ?_ | refine LL.val (R.neBool rfl rfl rfl rfl rfl) rfl rfl rfl ?_ | refine LL.val (R.xorU rfl rfl rfl (by first | omega | decide) (by first | omega | decide)) rfl rfl rfl ?_ | refine LL.val (R.addUN rfl rfl rfl (by omega)) rfl rfl rfl ?_ | refine LL.val (R.not rfl rfl) rfl rfl rfl ?_ | refine LL.val (R.lenS rfl rfl rfl rfl) rfl rfl rfl ?_ | refine LL.val (R.len rfl rfl rfl rfl) rfl rfl rfl ?_ | refine LL.val (R.pick rfl rfl rfl) rfl rfl rfl ?_ | refine LL.val (R.extract rfl rfl rfl) rfl rfl rfl ?_ | refine LL.val (R.func rfl rfl rfl) rfl rfl rfl ?_ | refine LL.val (R.slice rfl rfl rfl rfl rfl (I.slA rfl)) rfl rfl rfl ?_ | refine LL.val (R.slice rfl rfl rfl rfl rfl (I.slAto rfl (by omega))) rfl rfl rfl ?_) | refine LL.skip rfl rfl ?_))
    refine EE.roundN ⟨(hst2.trans hst3).trans (Stays.of_grown g4 hg5l), ⟨Nat.le_trans b3 (Nat.le_trans b23 (Nat.le_of_eq z4.symm)), fun k hk => hk.elim⟩, hb3.grown g4 hb3.size (by rintro k ⟨⟩; omega), _, r4, ?_, hvo⟩
    rw [List.map_append]
    exact o3.grown g4 (fun e => (hvo g5 e).2 rfl)
  case after =>
    rintro E W hE ⟨h1, v, h2, h3, h4⟩ hK
    have c5 := h2.cell (j := 0) rfl
    have gt : W.grownBy (taken E W) (some E) := grownBy_putObj' _ _ _
    have hEl := (Array.getElem?_eq_some_iff.1 hK).1
    (repeat (first | (first | refine CC.seq ?_ | refine CC.region ?_ | refine LL.nilS ?_ | refine CC.yes rfl ?_ | refine CC.no rfl ?_ | refine CC.block ?_ | refine EE.thenN ?_ | refine LL.nil ?_ | refine CC.exit ?_ | refine CC.ret ?_ | refine CC.skip ?_ | refine EE.thenX ?_ | refine EE.thenR ?_ | refine EE.inN ?_ | refine EE.inX ?_ | refine EE.inX' rfl ?_ | refine EE.inR ?_ | refine CC.label ?_ | refine EE.thenG ?_ | refine EE.inG ?_) | (first | refine LL.val (R.move rfl rfl) rfl rfl rfl ?_ | refine LL.val (R.assign rfl rfl) rfl rfl rfl ?_ | refine LL.val (R.nil rfl rfl) rfl rfl rfl ?_ | refine LL.val (R.field rfl rfl (I.fld rfl)) rfl rfl rfl ?_ | refine LL.val (R.load rfl rfl (I.ld1 rfl (by assumption))) rfl rfl rfl ?_ | refine LL.val (R.load rfl rfl (I.ld1 rfl (RowL.cell (by assumption) rfl))) rfl rfl rfl ?_ | refine LL.val (R.index rfl rfl rfl (I.ixA1c rfl rfl (by first | omega | decide))) rfl rfl rfl ?_ | refine LL.val (R.index rfl rfl rfl (I.ixS1c rfl rfl (by omega))) rfl rfl rfl ?_ | refine LL.val (R.index rfl rfl rfl (I.ixAc rfl rfl (by first | omega | decide))) rfl rfl rfl ?_ | refine LL.val (R.index rfl rfl rfl (I.ixSc rfl rfl (by omega))) rfl rfl rfl ?_ | refine LL.val (R.index rfl rfl rfl (I.ixA1 rfl (by omega))) rfl rfl rfl ?_ | refine LL.val (R.index rfl rfl rfl (I.ixS1 rfl (by omega))) rfl rfl rfl ?_ | refine LL.val (R.index rfl rfl rfl (I.ixA rfl (by omega))) rfl rfl rfl ?_ | refine LL.val (R.index rfl rfl rfl (I.ixS rfl (by omega))) rfl rfl rfl ?_ | refine LL.val (R.ltT rfl rfl rfl (by omega)) rfl rfl rfl ?_ | refine LL.val (R.ltF rfl rfl rfl (by omega)) rfl rfl rfl ?_ | refine LL.val (R.addNc rfl rfl rfl rfl (by omega)) rfl rfl rfl ?_ | refine LL.val (R.subNc rfl rfl rfl rfl (by omega) (by omega)) rfl rfl rfl ?_ | refine LL.val (R.addN rfl rfl rfl (by omega)) rfl rfl rfl ?_ | refine LL.val (R.subN rfl rfl rfl (by omega) (by omega)) rfl rfl rfl ?_ | refine LL.val (R.subcN rfl rfl rfl rfl (by omega) (by omega)) rfl rfl rfl ?_ | refine LL.val (R.addI rfl rfl rfl (by omega)) rfl rfl rfl ?_ | refine LL.val (R.subI rfl rfl rfl (by omega)) rfl rfl rfl ?_ | refine LL.val (R.mulNc rfl rfl rfl rfl (by omega)) rfl rfl rfl ?_ | refine LL.val (R.mulcN rfl rfl rfl rfl (by omega)) rfl rfl rfl ?_ | refine LL.val (R.quoNc rfl rfl rfl rfl (by omega) (by omega)) rfl rfl rfl ?_ | refine LL.val (R.remNc rfl rfl rfl rfl (by omega)) rfl rfl rfl ?_ | refine LL.val (R.mulN rfl rfl rfl (by omega)) rfl rfl rfl ?_ | refine LL.val (R.quoN rfl rfl rfl (by omega) (by omega)) rfl rfl rfl ?_ | refine LL.val (R.remN rfl rfl rfl (by omega)) rfl rfl rfl ?_ | refine LL.val (R.leT rfl rfl rfl (by omega)) rfl rfl rfl ?_ | refine LL.val (R.leF rfl rfl rfl (by omega)) rfl rfl rfl ?_ | refine LL.val (R.gtT rfl rfl rfl (by omega)) rfl rfl rfl ?_ | refine LL.val (R.gtF rfl rfl rfl (by omega)) rfl rfl rfl ?_ | refine LL.val (R.geT rfl rfl rfl (by omega)) rfl rfl rfl ?_ | refine LL.val (R.geF rfl rfl rfl (by omega)) rfl rfl rfl ?_ | refine LL.val (R.eqT rfl rfl rfl (by omega)) rfl rfl rfl ?_ | refine LL.val (R.eqF rfl rfl rfl (by omega)) rfl rfl rfl ?_ | refine LL.val (R.neT rfl rfl rfl (by omega)) rfl rfl rfl ?_ | refine LL.val (R.neF rfl rfl rfl (by omega)) rfl rfl rfl ?_ | refine LL.val (R.eqPtr rfl rfl rfl rfl rfl) rfl rfl rfl ?_ | refine LL.val (R.nePtr rfl rfl rfl rfl rfl) rfl rfl rfl ?_ | refine LL.val (R.eqSl rfl rfl rfl rfl rfl) rfl rfl rfl ?_ | refine LL.val (R.neSl rfl rfl rfl rfl rfl) rfl rfl rfl ?_ | refine LL.val (R.eqFn rfl rfl rfl rfl) rfl rfl rfl ?_ | refine LL.val (R.eqBool rfl rfl rfl rfl rfl) rfl rfl rfl ?_ | refine LL.val (R.neBool rfl rfl rfl rfl rfl) rfl rfl rfl ?_ | refine LL.val (R.xorU rfl rfl rfl (by first | omega | decide) (by first | omega | decide)) rfl rfl rfl ?_ | refine LL.val (R.addUN rfl rfl rfl (by omega)) rfl rfl rfl ?_ | refine LL.val (R.not rfl rfl) rfl rfl rfl ?_ | refine LL.val (R.lenS rfl rfl rfl rfl) rfl rfl rfl ?_ | refine LL.val (R.len rfl rfl rfl rfl) rfl rfl rfl ?_ | refine LL.val (R.pick rfl rfl rfl) rfl rfl rfl ?_ | refine LL.val (R.extract rfl rfl rfl) rfl rfl rfl ?_ | refine LL.val (R.func rfl rfl rfl) rfl rfl rfl ?_ | refine LL.val (R.slice rfl rfl rfl rfl rfl (I.slA rfl)) rfl rfl rfl ?_ | refine LL.val (R.slice rfl rfl rfl rfl rfl (I.slAto rfl (by omega))) rfl rfl rfl ?_) | refine LL.skip rfl rfl ?_))
    refine EE.ret1 hK [v, .int .i64 0] rfl rfl ?_
    refine ⟨v, rfl, h3.grown gt (fun e => ?_), taken_bel h1 (by omega) (Nat.le_refl _)⟩
    rcases h3.2 with ⟨e1, _⟩ | ⟨g', cap', cur, e1, _, hg', _⟩
    · rw [e1] at e; cases e
    · rw [e1] at e; cases e
      rw [hg'] at hK
      cases hK
end Go.Proofs.YtbbddpnjglijdaaDoor
/- walk: a walker's methods (written by genwk2.py). -/
namespace Go.Proofs.YtbbddpnjglijdaaDoor
set_option linter.unusedVariables false
set_option linter.unusedSimpArgs false
open Go.RowKit Go.Shelf
set_option maxRecDepth 100000
set_option maxHeartbeats 8000000
section
variable (g : Nat) {x0 : Wd} {dn fol mk : Bool} {dir links : Int} {lv : Value} {w : World}
theorem end_any (x : Wd) {c0 c1 c2 c3 c4 : Value} (h : RowL w g 60 [c0, c1, c2, c3, c4, .bool dn, .int .i64 dir, lv, .int .i64 links, .bool fol, .bool mk]) : Calls Tryd.prog 39 #[.pointer (some ⟨g, 0, none⟩), wdV x] w fun e w' => e = .returned (.tuple #[]) ∧ RowL w' g 60 (wkL x true dir lv links fol mk) ∧ Kept (fun j => j < w.heap.size ∧ j ≠ g) w w' := by
  have gw := Gw.refl g w
  refine X.fn Tryd.func39 rfl (n := 13) rfl rfl ?_
  refine CC.seq ?_
  refine CC.region ?_
  have l1 := h.lt
  refine LL.box [Value.int IntKind.i64 x.1, Value.int IntKind.i64 x.2.1, strV x.2.2.1, Value.int IntKind.i64 x.2.2.2.1, Value.int IntKind.i64 x.2.2.2.2] rfl rfl rfl rfl rfl ?_
  intro W3 g4 eg4 r5 z6 b2
  replace h := h.up b2
  replace gw := gw.up b2
  refine LL.nilS ?_
  refine CC.region ?_
  refine LL.val (R.move rfl rfl) rfl rfl rfl ?_
  refine LL.val (R.move rfl rfl) rfl rfl rfl ?_
  refine LL.val (R.load rfl rfl (I.ldNc (vs := [Value.int IntKind.i64 x.1, Value.int IntKind.i64 x.2.1, strV x.2.2.1, Value.int IntKind.i64 x.2.2.2.1, Value.int IntKind.i64 x.2.2.2.2]) (RowL.cells r5 rfl) (by rfl) (by rfl))) rfl rfl rfl ?_
  refine LL.val (R.nil rfl rfl) rfl rfl rfl ?_
  refine LL.val (R.field rfl rfl (I.fld rfl)) rfl rfl rfl ?_
  refine LL.val (R.field rfl rfl (I.fld rfl)) rfl rfl rfl ?_
  refine LL.storeN (vs := [Value.int IntKind.i64 x.1, Value.int IntKind.i64 x.2.1, strV x.2.2.1, Value.int IntKind.i64 x.2.2.2.1, Value.int IntKind.i64 x.2.2.2.2]) rfl rfl rfl rfl h (by exact Nat.le_of_ble_eq_true rfl) (ones_of rfl) rfl rfl ?_
  intro W8 r9 b7 z10
  have hlb7 := h.lt
  replace r9 : RowL W8 _ 60 [Value.int IntKind.i64 x.1, Value.int IntKind.i64 x.2.1, strV x.2.2.1, Value.int IntKind.i64 x.2.2.2.1, Value.int IntKind.i64 x.2.2.2.2, Value.bool dn, Value.int IntKind.i64 dir, lv, Value.int IntKind.i64 links, Value.bool fol, Value.bool mk] := r9
  clear h
  replace r5 := r5.gr b7 (by have := r5.lt; omega)
  replace gw := gw.gr b7 (by omega)
  have h := r9
  clear r9
  refine LL.val (R.nil rfl rfl) rfl rfl rfl ?_
  refine LL.val (R.field rfl rfl (I.fld rfl)) rfl rfl rfl ?_
  refine LL.val (R.field rfl rfl (I.fld rfl)) rfl rfl rfl ?_
  refine LL.store rfl rfl rfl rfl h (by exact Nat.le_of_ble_eq_true rfl) rfl rfl rfl rfl ?_
  intro W12 r13 b11 z14
  have hlb11 := h.lt
  replace r13 : RowL W12 _ 60 [Value.int IntKind.i64 x.1, Value.int IntKind.i64 x.2.1, strV x.2.2.1, Value.int IntKind.i64 x.2.2.2.1, Value.int IntKind.i64 x.2.2.2.2, Value.bool true, Value.int IntKind.i64 dir, lv, Value.int IntKind.i64 links, Value.bool fol, Value.bool mk] := r13
  clear h
  replace r5 := r5.gr b11 (by have := r5.lt; omega)
  replace gw := gw.gr b11 (by omega)
  have h := r13
  clear r13
  refine LL.nil ?_
  refine EE.end _ rfl rfl ?_
  exact ⟨rfl, h, gw⟩
--C walk_Walker_none | none_any _ @p | S
theorem none_any (h : RowL w g 60 (wkL x0 dn dir lv links fol true)) : Calls Tryd.prog 36 #[.pointer (some ⟨g, 0, none⟩)] w fun e w' => e = .returned (.bool false) ∧ w = w' := by
  refine X.fn Tryd.func36 rfl (n := 12) rfl rfl ?_
  refine CC.seq ?_
  refine CC.region ?_
  refine LL.val (R.assign rfl rfl) rfl rfl rfl ?_
  refine LL.nilS ?_
  refine CC.seq ?_
  refine CC.region ?_
  refine LL.val (R.move rfl rfl) rfl rfl rfl ?_
  refine LL.val (R.eqPtr rfl rfl rfl rfl rfl) rfl rfl rfl ?_
  refine LL.val (R.move rfl rfl) rfl rfl rfl ?_
  refine LL.val (R.move rfl rfl) rfl rfl rfl ?_
  refine LL.val (R.nil rfl rfl) rfl rfl rfl ?_
  refine LL.val (R.field rfl rfl (I.fld rfl)) rfl rfl rfl ?_
  refine LL.val (R.load rfl rfl (I.ld1 rfl (RowL.cell h rfl))) rfl rfl rfl ?_
  refine LL.val (R.not rfl rfl) rfl rfl rfl ?_
  refine LL.val (R.pick rfl rfl rfl) rfl rfl rfl ?_
  refine LL.val (R.assign rfl rfl) rfl rfl rfl ?_
  refine LL.nilS ?_
  refine CC.ret ?_
  refine EE.ret _ rfl rfl ?_
  exact ⟨rfl, rfl⟩
theorem answered_run (h : RowL w g 60 (wkL x0 false dir lv links fol true)) : Calls Tryd.prog 38 #[.pointer (some ⟨g, 0, none⟩)] w fun e w' => e = .returned (.int .i64 0) ∧ w = w' := by
  refine X.fn Tryd.func38 rfl (n := 12) rfl rfl ?_
  refine CC.seq ?_
  refine CC.region ?_
  refine LL.val (R.assign rfl rfl) rfl rfl rfl ?_
  refine LL.nilS ?_
  refine CC.seq ?_
  refine CC.block ?_
  refine CC.seq ?_
  refine CC.region ?_
  refine LL.val (R.move rfl rfl) rfl rfl rfl ?_
  refine LL.call (R.call rfl rfl rfl) rfl rfl rfl (none_any _ (by first | assumption | omega)) ?_
  rintro e W' ⟨rfl, rfl⟩
  refine ⟨_, rfl, ?_⟩
  refine LL.val (R.assign rfl rfl) rfl rfl rfl ?_
  refine LL.nilS ?_
  refine CC.no rfl ?_
  refine CC.seq ?_
  refine CC.region ?_
  refine LL.val (R.move rfl rfl) rfl rfl rfl ?_
  refine LL.val (R.nil rfl rfl) rfl rfl rfl ?_
  refine LL.val (R.field rfl rfl (I.fld rfl)) rfl rfl rfl ?_
  refine LL.val (R.field rfl rfl (I.fld rfl)) rfl rfl rfl ?_
  refine LL.val (R.load rfl rfl (I.ld1 rfl (RowL.cell h rfl))) rfl rfl rfl ?_
  refine LL.val (R.assign rfl rfl) rfl rfl rfl ?_
  refine LL.nilS ?_
  refine CC.no rfl ?_
  refine CC.skip ?_
  refine EE.inN ?_
  refine EE.thenN ?_
  refine CC.seq ?_
  refine CC.region ?_
  refine LL.val (R.assign rfl rfl) rfl rfl rfl ?_
  refine LL.nilS ?_
  refine CC.ret ?_
  refine EE.ret _ rfl rfl ?_
  exact ⟨rfl, rfl⟩
theorem done_done (h : RowL w g 60 (wkL x0 true dir lv links fol true)) : Calls Tryd.prog 25 #[.pointer (some ⟨g, 0, none⟩)] w fun e w' => e = .returned (.tuple #[wdV x0, .bool true]) ∧ Below w.heap.size w w' := by
  have q := Below.refl w.heap.size w
  refine X.fn Tryd.func25 rfl (n := 20) rfl rfl ?_
  refine CC.seq ?_
  refine CC.region ?_
  have l1 := h.lt
  refine LL.alloc ([Value.int IntKind.i64 0, Value.int IntKind.i64 0, Value.string { data := { toList := [] } }, Value.int IntKind.i64 0, Value.int IntKind.i64 0]) rfl rfl rfl rfl rfl ?_
  intro W3 g4 eg4 r5 z6 b2
  replace h := h.up b2
  replace q := q.trans (b2.mono q.size)
  refine LL.val (R.assign rfl rfl) rfl rfl rfl ?_
  refine LL.nilS ?_
  refine CC.seq ?_
  refine CC.seq ?_
  refine CC.region ?_
  refine LL.val (R.move rfl rfl) rfl rfl rfl ?_
  refine LL.call (R.call rfl rfl rfl) rfl rfl rfl (none_any _ (by first | assumption | omega)) ?_
  rintro e W' ⟨rfl, rfl⟩
  refine ⟨_, rfl, ?_⟩
  refine LL.val (R.move rfl rfl) rfl rfl rfl ?_
  refine LL.val (R.move rfl rfl) rfl rfl rfl ?_
  refine LL.val (R.nil rfl rfl) rfl rfl rfl ?_
  refine LL.val (R.field rfl rfl (I.fld rfl)) rfl rfl rfl ?_
  refine LL.val (R.field rfl rfl (I.fld rfl)) rfl rfl rfl ?_
  refine LL.val (R.load rfl rfl (I.ld1 rfl (RowL.cell h rfl))) rfl rfl rfl ?_
  refine LL.val (R.not rfl rfl) rfl rfl rfl ?_
  refine LL.val (R.pick rfl rfl rfl) rfl rfl rfl ?_
  refine LL.nilS ?_
  refine CC.no rfl ?_
  refine CC.skip ?_
  refine EE.thenN ?_
  refine CC.seq ?_
  refine CC.region ?_
  refine LL.val (R.move rfl rfl) rfl rfl rfl ?_
  refine LL.val (R.nil rfl rfl) rfl rfl rfl ?_
  refine LL.val (R.field rfl rfl (I.fld rfl)) rfl rfl rfl ?_
  refine LL.val (R.field rfl rfl (I.fld rfl)) rfl rfl rfl ?_
  refine LL.val (R.load rfl rfl (I.ldNc (vs := [Value.int IntKind.i64 x0.1, Value.int IntKind.i64 x0.2.1, strV x0.2.2.1, Value.int IntKind.i64 x0.2.2.2.1, Value.int IntKind.i64 x0.2.2.2.2]) (RowL.cells h rfl) (by rfl) (by rfl))) rfl rfl rfl ?_
  refine LL.storeN (vs := [Value.int IntKind.i64 x0.1, Value.int IntKind.i64 x0.2.1, strV x0.2.2.1, Value.int IntKind.i64 x0.2.2.2.1, Value.int IntKind.i64 x0.2.2.2.2]) rfl rfl rfl rfl r5 (by exact Nat.le_of_ble_eq_true rfl) (ones_of rfl) rfl rfl ?_
  intro W8 r9 b7 z10
  have hlb7 := r5.lt
  replace r9 : RowL W8 _ 31 [Value.int IntKind.i64 x0.1, Value.int IntKind.i64 x0.2.1, strV x0.2.2.1, Value.int IntKind.i64 x0.2.2.2.1, Value.int IntKind.i64 x0.2.2.2.2] := r9
  clear r5
  replace b2 := b2.grown b7 b2.size (by rintro k ⟨⟩; omega)
  replace h := h.gr b7 (by have := h.lt; omega)
  replace q := q.grown b7 q.size (by rintro k ⟨⟩; omega)
  have r5 := r9
  clear r9
  refine LL.val (R.assign rfl rfl) rfl rfl rfl ?_
  refine LL.nilS ?_
  refine CC.ret ?_
  refine EE.ret2 rfl ⟨_, rfl, lvNc (RowL.cells0 (by assumption)) (by rfl) (by rfl)⟩ rfl ?_
  exact ⟨rfl, q⟩
theorem asks_run (p : Bs) (r : List Bs) (n c : Nat) (a : Option Addr) (hn : (p :: r).length = n) (h : RowL w g 60 (wkL x0 false dir (.slice a n c) links fol true)) (hl : ReadsT stE 1 w (.slice a n c) (p :: r)) : Calls Tryd.prog 24 #[.pointer (some ⟨g, 0, none⟩)] w fun e w' => e = .returned (.tuple #[.int .i64 dir, strV p, .bool true]) ∧ Below w.heap.size w w' := by
  have q := Below.refl w.heap.size w
  obtain ⟨b, off, rfl, hb, cs⟩ := hl.one stEnc (i := 0) rfl
  have c0 : ∀ W, Below w.heap.size w W → W.cell? ⟨b, off + 0, none⟩ = some (strV p) := fun W k => by
    obtain ⟨_, _, e, _, cs⟩ := (hl.up k).one stEnc (i := 0) (t := p) rfl
    cases e
    exact cs _ rfl
  have hn1 : 0 < n := by rw [← hn]; exact Nat.succ_pos _
  clear hl cs
  refine X.fn Tryd.func24 rfl (n := 24) rfl rfl ?_
  refine CC.seq ?_
  refine CC.region ?_
  refine LL.val (R.assign rfl rfl) rfl rfl rfl ?_
  refine LL.val (R.assign rfl rfl) rfl rfl rfl ?_
  refine LL.val (R.assign rfl rfl) rfl rfl rfl ?_
  refine LL.nilS ?_
  refine CC.seq ?_
  refine CC.seq ?_
  refine CC.region ?_
  refine LL.val (R.move rfl rfl) rfl rfl rfl ?_
  refine LL.call (R.call rfl rfl rfl) rfl rfl rfl (none_any _ (by first | assumption | omega)) ?_
  rintro e W' ⟨rfl, rfl⟩
  refine ⟨_, rfl, ?_⟩
  refine LL.val (R.move rfl rfl) rfl rfl rfl ?_
  refine LL.val (R.move rfl rfl) rfl rfl rfl ?_
  refine LL.val (R.nil rfl rfl) rfl rfl rfl ?_
  refine LL.val (R.field rfl rfl (I.fld rfl)) rfl rfl rfl ?_
  refine LL.val (R.field rfl rfl (I.fld rfl)) rfl rfl rfl ?_
  refine LL.val (R.load rfl rfl (I.ld1 rfl (RowL.cell h rfl))) rfl rfl rfl ?_
  refine LL.val (R.pick rfl rfl rfl) rfl rfl rfl ?_
  refine LL.nilS ?_
  refine CC.no rfl ?_
  refine CC.skip ?_
  refine EE.thenN ?_
  refine CC.seq ?_
  refine CC.quietB (by kernel_rfl) (by kernel_rfl) (fun W2 b1 z3 => ?_)
  replace q := q.trans (b1.mono q.size)
  replace h := h.up b1
  refine SS.val (R.move rfl rfl) rfl rfl ?_
  refine SS.val (R.nil rfl rfl) rfl rfl ?_
  refine SS.val (R.field rfl rfl (I.fld rfl)) rfl rfl ?_
  refine SS.val (R.load rfl rfl (I.ld1 rfl (RowL.cell h rfl))) rfl rfl ?_
  refine SS.val (R.move rfl rfl) rfl rfl ?_
  refine SS.val (R.nil rfl rfl) rfl rfl ?_
  refine SS.val (R.field rfl rfl (I.fld rfl)) rfl rfl ?_
  refine SS.val (R.load rfl rfl (I.ld1 rfl (RowL.cell h rfl))) rfl rfl ?_
  refine SS.val (R.index rfl rfl rfl (I.ixS1c rfl rfl (by omega))) rfl rfl ?_
  (refine SS.val (R.load rfl rfl (I.ld1 rfl (c0 _ q))) rfl rfl ?_)
  refine SS.val (R.assign rfl rfl) rfl rfl ?_
  refine SS.val (R.assign rfl rfl) rfl rfl ?_
  refine SS.val (R.assign rfl rfl) rfl rfl ?_
  refine SS.nilQ ?_
  refine EE.thenN ?_
  refine CC.ret ?_
  refine EE.ret _ rfl rfl ?_
  exact ⟨rfl, q⟩
theorem asks_done (h : RowL w g 60 (wkL x0 true dir lv links fol true)) : Calls Tryd.prog 24 #[.pointer (some ⟨g, 0, none⟩)] w fun e w' => e = .returned (.tuple #[.int .i64 0, strV [], .bool false]) ∧ Below w.heap.size w w' := by
  have q := Below.refl w.heap.size w
  refine X.fn Tryd.func24 rfl (n := 24) rfl rfl ?_
  refine CC.seq ?_
  refine CC.region ?_
  refine LL.val (R.assign rfl rfl) rfl rfl rfl ?_
  refine LL.val (R.assign rfl rfl) rfl rfl rfl ?_
  refine LL.val (R.assign rfl rfl) rfl rfl rfl ?_
  refine LL.nilS ?_
  refine CC.seq ?_
  refine CC.seq ?_
  refine CC.region ?_
  refine LL.val (R.move rfl rfl) rfl rfl rfl ?_
  refine LL.call (R.call rfl rfl rfl) rfl rfl rfl (none_any _ (by first | assumption | omega)) ?_
  rintro e W' ⟨rfl, rfl⟩
  refine ⟨_, rfl, ?_⟩
  refine LL.val (R.move rfl rfl) rfl rfl rfl ?_
  refine LL.val (R.move rfl rfl) rfl rfl rfl ?_
  refine LL.val (R.nil rfl rfl) rfl rfl rfl ?_
  refine LL.val (R.field rfl rfl (I.fld rfl)) rfl rfl rfl ?_
  refine LL.val (R.field rfl rfl (I.fld rfl)) rfl rfl rfl ?_
  refine LL.val (R.load rfl rfl (I.ld1 rfl (RowL.cell h rfl))) rfl rfl rfl ?_
  refine LL.val (R.pick rfl rfl rfl) rfl rfl rfl ?_
  refine LL.nilS ?_
  refine CC.yes rfl ?_
  refine CC.seq ?_
  refine CC.region ?_
  refine LL.val (R.assign rfl rfl) rfl rfl rfl ?_
  refine LL.val (R.assign rfl rfl) rfl rfl rfl ?_
  refine LL.val (R.assign rfl rfl) rfl rfl rfl ?_
  refine LL.nilS ?_
  refine CC.ret ?_
  refine EE.thenR ?_
  refine EE.ret _ rfl rfl ?_
  exact ⟨rfl, q⟩
end
end Go.Proofs.YtbbddpnjglijdaaDoor
/- walk: clone, together, lead, on (written by genwk3.py). -/
namespace Go.Proofs.YtbbddpnjglijdaaDoor
set_option linter.unusedVariables false
set_option linter.unusedSimpArgs false
open Go.RowKit Go.Shelf
set_option maxRecDepth 100000
set_option maxHeartbeats 8000000
theorem sclone_any (v : Value) (xs : List Bs) (w : World) (ha : ReadsT stE 1 w v xs) (hl : xs.length ≤ 1048576) :
    Calls Tryd.prog 37 #[v] w fun e w' => ∃ v', e = .returned v' ∧ OwnsT stE 1 w' w.heap.size 9 v' xs ∧ Below w.heap.size w w' := by
  have q := Below.refl w.heap.size w
  obtain ⟨N, hN⟩ : ∃ N, xs.length = N := ⟨_, rfl⟩
  obtain ⟨a, cap, rfl, hc⟩ := ha.form hN
  cases a with
  | none =>
    have hx : xs = [] := by
      obtain ⟨a', cap', e, _, h⟩ := ha
      cases e
      rcases Classical.em (xs = []) with h0 | h0
      · exact h0
      · obtain ⟨_, _, h1, _⟩ := h h0
        cases h1
    subst hx
    obtain rfl : 0 = N := hN
    refine X.fn Tryd.func37 rfl (n := 8) rfl rfl ?_
    refine CC.seq ?_
    refine CC.region ?_
    refine LL.val (R.assign rfl rfl) rfl rfl rfl ?_
    refine LL.nilS ?_
    refine CC.seq ?_
    refine CC.seq ?_
    refine CC.region ?_
    refine LL.val (R.move rfl rfl) rfl rfl rfl ?_
    refine LL.val (R.eqSl rfl rfl rfl rfl rfl) rfl rfl rfl ?_
    refine LL.nilS ?_
    refine CC.yes rfl ?_
    refine CC.seq ?_
    refine CC.region ?_
    refine LL.val (R.assign rfl rfl) rfl rfl rfl ?_
    refine LL.nilS ?_
    refine CC.ret ?_
    refine EE.thenR ?_
    refine EE.ret _ rfl rfl ?_
    exact ⟨_, rfl, OwnsT.none _ _ _, q⟩
  | some p =>
    have haF := fun X (b : Below w.heap.size w X) => ha.up b
    clear ha
    refine X.fn Tryd.func37 rfl (n := 8) rfl rfl ?_
    refine CC.seq ?_
    refine CC.region ?_
    refine LL.val (R.assign rfl rfl) rfl rfl rfl ?_
    refine LL.nilS ?_
    refine CC.seq ?_
    refine CC.seq ?_
    refine CC.region ?_
    refine LL.val (R.move rfl rfl) rfl rfl rfl ?_
    refine LL.val (R.eqSl rfl rfl rfl rfl rfl) rfl rfl rfl ?_
    refine LL.nilS ?_
    refine CC.no rfl ?_
    refine CC.skip ?_
    refine EE.thenN ?_
    refine CC.seq ?_
    refine CC.region ?_
    refine LL.lit (e := 9) [] 0 rfl rfl (fun _ => by kernel_rfl) rfl rfl ?_
    intro Wa2 ga3 ega3 ra4 za5 ba1
    replace q := q.trans (ba1.mono q.size)
    refine LL.val (R.move rfl rfl) rfl rfl rfl ?_
    (refine LL.appendT2 rfl rfl stEnc ElS (RowL.ownsT (base := w.heap.size) (ts := ([] : List Bs)) stEnc (by assumption) (by omega) (by simp)) (us := xs) (haF _ q) (by simp [maxLen]; omega) (by simp; omega) (by have := q.size; omega) rfl rfl ?_; intro v' Wz oz gra hva; rw [List.nil_append] at oz; have gsz := gra.size; replace q := q.grown gra q.size (by rintro k ⟨⟩; dsimp only; omega); obtain ⟨az, cz, rfl, hcz⟩ := (oz.reads stEnc).form hN; clear gra hva)
    refine LL.val (R.assign rfl rfl) rfl rfl rfl ?_
    refine LL.nilS ?_
    refine CC.ret ?_
    refine EE.ret _ rfl rfl ?_
    exact ⟨_, rfl, oz, q⟩
theorem together_any (v1 v2 : Value) (xs ys : List Bs) (w : World) (h1 : ReadsT stE 1 w v1 xs) (h2 : ReadsT stE 1 w v2 ys) (hl1 : xs.length ≤ 100000) (hl2 : ys.length ≤ 100000) :
    Calls Tryd.prog 49 #[v1, v2] w fun e w' => ∃ v', e = .returned v' ∧ OwnsT stE 1 w' w.heap.size 9 v' (xs ++ ys) ∧ Below w.heap.size w w' := by
  have q := Below.refl w.heap.size w
  obtain ⟨N, hN⟩ : ∃ N, xs.length = N := ⟨_, rfl⟩
  obtain ⟨N2, hN2⟩ : ∃ N, ys.length = N := ⟨_, rfl⟩
  obtain ⟨a, cap, rfl, hc⟩ := h1.form hN
  obtain ⟨a2, cap2, rfl, hc2⟩ := h2.form hN2
  have h2F := fun X (b : Below w.heap.size w X) => h2.up b
  have hcl := fun X (b : Below w.heap.size w X) => sclone_any _ xs X (h1.up b) (by omega)
  clear h1 h2
  refine X.fn Tryd.func49 rfl (n := 9) rfl rfl ?_
  refine CC.seq ?_
  refine CC.region ?_
  refine LL.val (R.assign rfl rfl) rfl rfl rfl ?_
  refine LL.nilS ?_
  refine CC.seq ?_
  refine CC.region ?_
  refine LL.val (R.move rfl rfl) rfl rfl rfl ?_
  (refine LL.call (R.call rfl rfl rfl) rfl rfl rfl (hcl _ q) ?_; rintro e W18 ⟨v', rfl, oc, b15⟩; refine ⟨_, rfl, ?_⟩; obtain ⟨az, cz, rfl, hcz⟩ := (oc.reads stEnc).form hN)
  have zb15 := b15.size
  replace q := q.trans (b15.mono q.size)
  refine LL.val (R.move rfl rfl) rfl rfl rfl ?_
  (refine LL.appendT2 rfl rfl stEnc ElS oc (us := ys) (h2F _ q) (by simp only [maxLen]; omega) (by omega) (by have := q.size; omega) rfl rfl ?_; intro v' Wz oz gra hva; have gsz := gra.size; replace q := q.grown gra q.size (fun k hk => by have := own_ge oc k hk; omega); obtain ⟨az, cz, rfl, hcz⟩ := (oz.reads stEnc).form (n := N + N2) (by rw [List.length_append]; omega); clear gra hva oc)
  refine LL.val (R.assign rfl rfl) rfl rfl rfl ?_
  refine LL.nilS ?_
  refine CC.ret ?_
  refine EE.ret _ rfl rfl ?_
  exact ⟨_, rfl, OwnsT.lower oz (by omega), q⟩
section
variable (g : Nat) {dn fol mk : Bool} {dir links : Int} {lv : Value} {w : World}
theorem lead_any (v : Value) (xs ys : List Bs) {B : Nat} (h : RowL w g 60 (wkL wdZ false dir lv links fol true)) (hv : ReadsT stE 1 w v xs) (hp : PsAt w B g lv ys) (hl1 : xs.length ≤ 100000) (hl2 : ys.length ≤ 100000) : Calls Tryd.prog 33 #[.pointer (some ⟨g, 0, none⟩), v] w fun e w' => e = .returned (.tuple #[]) ∧ (∃ v' B', RowL w' g 60 (wkL wdZ false dir v' links fol true) ∧ PsAt w' B' g v' (xs ++ ys)) ∧ Kept (fun j => j < w.heap.size ∧ j ≠ g) w w' := by
  have gw := Gw.refl g w
  have hg := h.lt
  obtain ⟨a, n, c, rfl⟩ : ∃ a n c, lv = .slice a n c := by
    obtain ⟨a, c, e, _⟩ := hp.r.form rfl
    exact ⟨_, _, _, e⟩
  obtain ⟨N, hN⟩ : ∃ N, xs.length = N := ⟨_, rfl⟩
  obtain ⟨a1, c1, rfl, hc1⟩ := hv.form hN
  have htg := fun X (b : Below w.heap.size w X) => together_any _ _ xs ys X (hv.up b) (hp.r.up b) hl1 hl2
  have q := Below.refl w.heap.size w
  clear hv hp
  refine X.fn Tryd.func33 rfl (n := 13) rfl rfl ?_
  refine CC.region ?_
  refine LL.val (R.move rfl rfl) rfl rfl rfl ?_
  refine LL.val (R.move rfl rfl) rfl rfl rfl ?_
  refine LL.val (R.move rfl rfl) rfl rfl rfl ?_
  refine LL.val (R.nil rfl rfl) rfl rfl rfl ?_
  refine LL.val (R.field rfl rfl (I.fld rfl)) rfl rfl rfl ?_
  refine LL.val (R.load rfl rfl (I.ld1 rfl (RowL.cell h rfl))) rfl rfl rfl ?_
  have l53 := h.lt
  (refine LL.call (R.call rfl rfl rfl) rfl rfl rfl (htg _ q) ?_; rintro e W52 ⟨v', rfl, oc, b49⟩; refine ⟨_, rfl, ?_⟩; obtain ⟨az, cz, rfl, hcz⟩ := (oc.reads stEnc).form rfl; clear q; have hp : PsAt W52 W52.heap.size g _ _ := ⟨oc.reads stEnc, fun x n c e _ => by cases e; have := own_ge oc x.block rfl; have hx := own_in oc rfl; exact ⟨hx, by omega⟩, Nat.le_refl _⟩; clear oc)
  have zb49 := b49.size
  replace gw := gw.up b49
  replace h := h.up b49
  refine LL.val (R.nil rfl rfl) rfl rfl rfl ?_
  refine LL.val (R.field rfl rfl (I.fld rfl)) rfl rfl rfl ?_
  refine LL.store rfl rfl rfl rfl h (by exact Nat.le_of_ble_eq_true rfl) rfl rfl rfl rfl ?_
  intro W82 r83 b81 z84
  have hlb81 := h.lt
  replace r83 : RowL W82 _ 60 [Value.int IntKind.i64 0, Value.int IntKind.i64 0, strV [], Value.int IntKind.i64 0, Value.int IntKind.i64 0, Value.bool false, Value.int IntKind.i64 dir, Value.slice az (xs ++ ys).length cz, Value.int IntKind.i64 links, Value.bool fol, Value.bool true] := r83
  clear h
  replace hp := hp.gr b81 (by omega)
  replace gw := gw.gr b81 (by omega)
  have h := r83
  clear r83
  refine LL.nil ?_
  refine EE.end _ rfl rfl ?_
  exact ⟨rfl, ⟨_, _, h, hp⟩, gw⟩
end
end Go.Proofs.YtbbddpnjglijdaaDoor
/- walk: on, stop, enter (written by genwk4.py). -/
namespace Go.Proofs.YtbbddpnjglijdaaDoor
set_option linter.unusedVariables false
set_option linter.unusedSimpArgs false
open Go.RowKit Go.Shelf
set_option maxRecDepth 100000
set_option maxHeartbeats 8000000
theorem I.slFromG {P : Program} {T e : TypeId} {k : Nat} {w : World} {a : Option Addr} {len cap lo : Nat} (h : slB P T = some (e, k)) (h1 : lo ≤ len) : (Instr.sliceAt T (.slice a len cap) (some (.int .i64 (lo : Int))) none none).run P w = .ok (.slice (if cap = lo then a else a.map fun p => p.add (lo * k)) (len - lo) (cap - lo)) w := by
  refine slAt_sl h ?_
  obtain ⟨hu, hs⟩ := sl_of h
  obtain ⟨i, hi', hsz⟩ : ∃ i, P.info? e = some i ∧ i.size = k := by
    unfold szB at hs
    cases hq : P.info? e with
    | none => rw [hq] at hs; cases hs
    | some i => rw [hq] at hs; exact ⟨i, rfl, by simpa using hs⟩
  simp [Instr.slice, run_underlying hu, Instr.sliceBounds, run_sliceBound, sizeOf, typeInfo, hi', hsz, (by omega : (lo : Int) ≤ (len : Int))]
/-- A walker in memory. -/
structure WkAt (w : World) (g : Nat) (s : Wk) : Prop where
  out : ∃ (dir links : Int) (lv : Value) (ls : List Bs) (B : Nat), RowL w g 60 (wkL (s.fin.getD wdZ) s.fin.isSome dir lv links s.fol true) ∧ PsAt w B g lv ls ∧ ls.length ≤ 100000 ∧ (s.fin = none → dir = s.dir ∧ links = s.links ∧ ls = s.ps)
section
variable {w w' : World} {g r B : Nat} {s : Wk}
theorem WkAt.up (h : WkAt w g s) (b : Below w.heap.size w w') : WkAt w' g s := by
  obtain ⟨d, k, lv, ls, B, h1, h2, h3⟩ := h.out
  exact ⟨d, k, lv, ls, B, h1.up b, h2.up b, h3⟩
theorem WkAt.lt (h : WkAt w g s) : g < w.heap.size := by
  obtain ⟨d, k, lv, ls, B, h1, h2, h3⟩ := h.out
  exact h1.lt
theorem WkAt.fin {x : Wd} {dir : Int} {lv : Value} {links : Int} {fol : Bool} {ls : List Bs} (h : RowL w g 60 (wkL x true dir lv links fol true)) (hp : PsAt w B g lv ls) (hl : ls.length ≤ 100000) (d : Int) (k : Nat) (ps : List Bs) (hs : s = ⟨d, ps, k, fol, some x⟩) : WkAt w g s := by
  subst hs
  exact ⟨dir, links, lv, ls, B, h, hp, hl, fun e => by cases e⟩
theorem WkAt.run {dir : Int} {lv : Value} {links : Nat} {fol : Bool} {ls : List Bs} (h : RowL w g 60 (wkL wdZ false dir lv (links : Int) fol true)) (hp : PsAt w B g lv ls) (hl : ls.length ≤ 100000) (hs : s = ⟨dir, ls, links, fol, none⟩) : WkAt w g s := by
  subst hs
  exact ⟨dir, links, lv, ls, B, h, hp, hl, fun _ => ⟨rfl, rfl, rfl⟩⟩
end
theorem tail_ex {w : World} {B g n c : Nat} {a : Option Addr} {p : Bs} {r : List Bs} (h : PsAt w B g (.slice a n c) (p :: r)) (hn : (p :: r).length = n) : ∃ a' c', (∀ (P : Program) (T e : TypeId) (w' : World), slB P T = some (e, 1) → (Instr.sliceAt T (.slice a n c) (some (.int .i64 1)) none none).run P w' = .ok (.slice a' (n - 1) c') w') ∧ ∀ X, PsAt X B g (.slice a n c) (p :: r) → PsAt X B g (.slice a' (n - 1) c') r := by
  have h1 : 1 ≤ n := by rw [← hn]; exact Nat.succ_le_succ (Nat.zero_le _)
  refine ⟨_, _, fun P T e w' hs => I.slFromG (lo := 1) hs h1, fun X hX => ⟨hX.r.from stEnc h1, fun x n' c' e h0 => ?_, hX.hB⟩⟩
  simp only [Value.slice.injEq] at e
  obtain ⟨e1, e2, e3⟩ := e
  cases a with
  | none => split at e1 <;> cases e1
  | some y =>
    have := hX.ne y n c rfl h1
    split at e1
    · cases e1
      exact this
    · cases e1
      exact this
section
variable (g : Nat) {fol : Bool} {dir : Int} {links : Nat} {lv : Value} {ls : List Bs} {w : World} {B : Nat}
theorem on_any (h : RowL w g 60 (wkL wdZ false dir lv links fol true)) (hp : PsAt w B g lv ls) (hl : ls.length ≤ 100000) : Calls Tryd.prog 34 #[.pointer (some ⟨g, 0, none⟩)] w fun e w' => e = .returned (.tuple #[]) ∧ WkAt w' g (Wk.on ⟨dir, ls, links, fol, none⟩) ∧ Kept (fun j => j < w.heap.size ∧ j ≠ g) w w' := by
  have gw := Gw.refl g w
  refine X.fn Tryd.func34 rfl (n := 32) rfl rfl ?_
  refine CC.jumps (α := List Bs × Value) (fun s => [(0, .pointer (some ⟨g, 0, none⟩))]) (fun s W => RowL W g 60 (wkL wdZ false dir s.2 links fol true) ∧ PsAt W B g s.2 s.1 ∧ s.1.length ≤ 100000 ∧ skipD s.1 = skipD ls ∧ Gw g w W) (fun s => s.1.length) (ls, lv) ⟨rfl, trivial⟩ ⟨h, hp, hl, rfl, gw⟩ ?_
  clear h hp hl gw
  rintro ⟨l, v⟩ W ⟨h, hp, hl, e, gw⟩
  dsimp only at h hp hl e
  show CC none Tryd.prog _ 32 [] (sl [(0, .pointer (some ⟨g, 0, none⟩))]) _ W
  have hB := hp.hB
  cases l with
  | nil =>
    obtain ⟨a, c, rfl⟩ : ∃ a c, v = .slice a 0 c := hp.len
    have es : Wk.on ⟨dir, ls, links, fol, none⟩ = ⟨dir, [], links, fol, some (0, 0, [], dir, 2)⟩ := by
      unfold Wk.on
      rw [show skipD (Wk.mk dir ls links fol none).ps = [] from e.symm]
      rfl
    rw [es]
    refine CC.block ?_
    refine CC.seq ?_
    refine CC.region ?_
    refine LL.val (R.move rfl rfl) rfl rfl rfl ?_
    refine LL.val (R.nil rfl rfl) rfl rfl rfl ?_
    refine LL.val (R.field rfl rfl (I.fld rfl)) rfl rfl rfl ?_
    refine LL.val (R.load rfl rfl (I.ld1 rfl (RowL.cell h rfl))) rfl rfl rfl ?_
    refine LL.val (R.len rfl rfl rfl rfl) rfl rfl rfl ?_
    refine LL.val (R.eqT rfl rfl rfl (by omega)) rfl rfl rfl ?_
    refine LL.val (R.assign rfl rfl) rfl rfl rfl ?_
    refine LL.nilS ?_
    refine CC.yes rfl ?_
    refine CC.region ?_
    refine LL.val (R.move rfl rfl) rfl rfl rfl ?_
    refine LL.val (R.move rfl rfl) rfl rfl rfl ?_
    refine LL.val (R.nil rfl rfl) rfl rfl rfl ?_
    refine LL.val (R.field rfl rfl (I.fld rfl)) rfl rfl rfl ?_
    refine LL.val (R.load rfl rfl (I.ld1 rfl (RowL.cell h rfl))) rfl rfl rfl ?_
    refine LL.val (R.buildV rfl rfl (v := .agg #[Value.int IntKind.i64 0, Value.int IntKind.i64 0, Value.string { data := #[] }, Value.int IntKind.i64 dir, Value.int IntKind.i64 2]) (fun _ => by kernel_rfl)) rfl rfl rfl ?_
    (refine LL.call (R.call rfl rfl rfl) rfl rfl rfl (end_any g (0, 0, [], dir, 2) h) ?_; rintro e Wa95 ⟨rfl, hN, ta94⟩; clear h; have h := hN; clear hN; refine ⟨_, rfl, ?_⟩)
    have zta94 := ta94.size
    replace gw := gw.kept ta94 ⟨by omega, by omega⟩
    replace hp := hp.kept ta94 ⟨by omega, by omega⟩
    refine LL.nil ?_
    refine EE.inN ?_
    refine EE.jumpN ?_
    refine EE.end _ rfl rfl ?_
    exact ⟨rfl, WkAt.fin h hp hl _ _ _ rfl, gw⟩
  | cons p r =>
    obtain ⟨a, c, rfl⟩ := hp.len
    obtain ⟨n, hn⟩ : ∃ n, (p :: r).length = n := ⟨_, rfl⟩
    rw [hn] at hl h hp
    have hn1 : 0 < n := by rw [← hn]; exact Nat.succ_pos _
    obtain ⟨b, off, rfl, hb, cs⟩ := hp.r.one stEnc (i := 0) rfl
    have c0 : W.cell? ⟨b, off + 0, none⟩ = some (strV p) := cs _ rfl
    have c1 : W.cell? ⟨b, off, none⟩ = some (strV p) := cs _ rfl
    clear cs
    by_cases h46 : p = [46]
    · obtain ⟨a', c', hsl, htl⟩ := tail_ex hp hn
      have hrn : r.length = n - 1 := by rw [← hn]; rfl
      have e2 : skipD r = skipD ls := by
        rw [← e]
        show _ = if p = [46] then skipD r else p :: r
        rw [if_pos h46]
      refine CC.block ?_
      refine CC.seq ?_
      refine CC.region ?_
      refine LL.val (R.move rfl rfl) rfl rfl rfl ?_
      refine LL.val (R.nil rfl rfl) rfl rfl rfl ?_
      refine LL.val (R.field rfl rfl (I.fld rfl)) rfl rfl rfl ?_
      refine LL.val (R.load rfl rfl (I.ld1 rfl (RowL.cell h rfl))) rfl rfl rfl ?_
      refine LL.val (R.len rfl rfl rfl rfl) rfl rfl rfl ?_
      refine LL.val (R.eqF rfl rfl rfl (by omega)) rfl rfl rfl ?_
      refine LL.val (R.assign rfl rfl) rfl rfl rfl ?_
      refine LL.nilS ?_
      refine CC.no rfl ?_
      refine CC.seq ?_
      refine CC.region ?_
      refine LL.val (R.move rfl rfl) rfl rfl rfl ?_
      refine LL.val (R.nil rfl rfl) rfl rfl rfl ?_
      refine LL.val (R.field rfl rfl (I.fld rfl)) rfl rfl rfl ?_
      refine LL.val (R.load rfl rfl (I.ld1 rfl (RowL.cell h rfl))) rfl rfl rfl ?_
      refine LL.val (R.index rfl rfl rfl (I.ixS1c rfl rfl (by omega))) rfl rfl rfl ?_
      refine LL.val (R.load rfl rfl (I.ld1 rfl (by assumption))) rfl rfl rfl ?_
      (refine LL.val (R.eqS (a := p) (b := [46]) (c := true) rfl rfl rfl (by simp [h46])) rfl rfl rfl ?_)
      refine LL.val (R.assign rfl rfl) rfl rfl rfl ?_
      refine LL.nilS ?_
      refine CC.yes rfl ?_
      refine CC.seq ?_
      refine CC.region ?_
      refine LL.val (R.move rfl rfl) rfl rfl rfl ?_
      refine LL.val (R.move rfl rfl) rfl rfl rfl ?_
      refine LL.val (R.nil rfl rfl) rfl rfl rfl ?_
      refine LL.val (R.field rfl rfl (I.fld rfl)) rfl rfl rfl ?_
      refine LL.val (R.load rfl rfl (I.ld1 rfl (RowL.cell h rfl))) rfl rfl rfl ?_
      (refine LL.val (R.slice rfl rfl rfl rfl rfl (hsl _ _ _ _ rfl)) rfl rfl rfl ?_)
      refine LL.val (R.nil rfl rfl) rfl rfl rfl ?_
      refine LL.val (R.field rfl rfl (I.fld rfl)) rfl rfl rfl ?_
      refine LL.store rfl rfl rfl rfl h (by exact Nat.le_of_ble_eq_true rfl) rfl rfl rfl rfl ?_
      intro Wb2 rb3 bb1 zb4
      have hlbb1 := h.lt
      replace rb3 : RowL Wb2 _ 60 [Value.int IntKind.i64 0, Value.int IntKind.i64 0, strV [], Value.int IntKind.i64 0, Value.int IntKind.i64 0, Value.bool false, Value.int IntKind.i64 dir, Value.slice a' (n - 1) c', Value.int IntKind.i64 ↑links, Value.bool fol, Value.bool true] := rb3
      clear h
      replace gw := gw.gr bb1 (by omega)
      replace hp := hp.gr bb1 (by omega)
      have h := rb3
      clear rb3
      refine LL.nilS ?_
      refine CC.goto ?_
      refine EE.inG ?_
      exact EE.jump (r, _) ⟨rfl, trivial⟩ ⟨h, htl _ hp, by show r.length ≤ 100000; omega, e2, gw⟩ (by show r.length < (p :: r).length; omega)
    · have es : Wk.on ⟨dir, ls, links, fol, none⟩ = ⟨dir, p :: r, links, fol, none⟩ := by
        unfold Wk.on
        rw [show skipD (Wk.mk dir ls links fol none).ps = p :: r from by
          show skipD ls = _
          rw [← e]
          show (if p = [46] then skipD r else p :: r) = _
          rw [if_neg h46]]
      rw [es]
      refine CC.block ?_
      refine CC.seq ?_
      refine CC.region ?_
      refine LL.val (R.move rfl rfl) rfl rfl rfl ?_
      refine LL.val (R.nil rfl rfl) rfl rfl rfl ?_
      refine LL.val (R.field rfl rfl (I.fld rfl)) rfl rfl rfl ?_
      refine LL.val (R.load rfl rfl (I.ld1 rfl (RowL.cell h rfl))) rfl rfl rfl ?_
      refine LL.val (R.len rfl rfl rfl rfl) rfl rfl rfl ?_
      refine LL.val (R.eqF rfl rfl rfl (by omega)) rfl rfl rfl ?_
      refine LL.val (R.assign rfl rfl) rfl rfl rfl ?_
      refine LL.nilS ?_
      refine CC.no rfl ?_
      refine CC.seq ?_
      refine CC.region ?_
      refine LL.val (R.move rfl rfl) rfl rfl rfl ?_
      refine LL.val (R.nil rfl rfl) rfl rfl rfl ?_
      refine LL.val (R.field rfl rfl (I.fld rfl)) rfl rfl rfl ?_
      refine LL.val (R.load rfl rfl (I.ld1 rfl (RowL.cell h rfl))) rfl rfl rfl ?_
      refine LL.val (R.index rfl rfl rfl (I.ixS1c rfl rfl (by omega))) rfl rfl rfl ?_
      refine LL.val (R.load rfl rfl (I.ld1 rfl (by assumption))) rfl rfl rfl ?_
      (refine LL.val (R.eqS (a := p) (b := [46]) (c := false) rfl rfl rfl (by simp [h46])) rfl rfl rfl ?_)
      refine LL.val (R.assign rfl rfl) rfl rfl rfl ?_
      refine LL.nilS ?_
      refine CC.no rfl ?_
      refine CC.skip ?_
      refine EE.inN ?_
      refine EE.jumpN ?_
      refine EE.end _ rfl rfl ?_
      exact ⟨rfl, WkAt.run h hp (by omega) rfl, gw⟩
theorem stop_yes (p : Bs) (f : Fd) (h : RowL w g 60 (wkL wdZ false dir lv links fol true)) (hp : PsAt w B g lv ls) (he : ls = []) : Calls Tryd.prog 41 #[.pointer (some ⟨g, 0, none⟩), strV p, fdV f] w fun e w' => e = .returned (.tuple #[]) ∧ WkAt w' g ⟨dir, [], links, fol, some (0, dir, p, f.1, f.2.1)⟩ ∧ Kept (fun j => j < w.heap.size ∧ j ≠ g) w w' := by
  subst he
  have gw := Gw.refl g w
  have hB := hp.hB
  have hg := h.lt
  obtain ⟨a, c, rfl⟩ : ∃ a c, lv = .slice a 0 c := hp.len
  refine X.fn Tryd.func41 rfl (n := 27) rfl rfl ?_
  refine CC.seq ?_
  refine CC.region ?_
  have l8 := h.lt
  refine LL.box [Value.int IntKind.i64 f.1, Value.int IntKind.i64 f.2.1, strV f.2.2] rfl rfl rfl rfl rfl ?_
  intro W10 g11 eg11 r12 z13 b9
  replace gw := gw.up b9
  replace h := h.up b9
  replace hp := hp.up b9
  refine LL.nilS ?_
  refine CC.seq ?_
  refine CC.seq ?_
  refine CC.region ?_
  refine LL.val (R.move rfl rfl) rfl rfl rfl ?_
  refine LL.val (R.nil rfl rfl) rfl rfl rfl ?_
  refine LL.val (R.field rfl rfl (I.fld rfl)) rfl rfl rfl ?_
  refine LL.val (R.load rfl rfl (I.ld1 rfl (RowL.cell h rfl))) rfl rfl rfl ?_
  refine LL.val (R.len rfl rfl rfl rfl) rfl rfl rfl ?_
  refine LL.val (R.gtF rfl rfl rfl (by omega)) rfl rfl rfl ?_
  refine LL.nilS ?_
  refine CC.no rfl ?_
  refine CC.skip ?_
  refine EE.thenN ?_
  refine CC.growT 11 (by kernel_rfl) (by kernel_rfl) ?_
  refine GG.val (fun w' b' => R.move rfl rfl) rfl rfl ?_
  refine GG.val (fun w' b' => R.move rfl rfl) rfl rfl ?_
  refine GG.val (fun w' b' => R.nil rfl rfl) rfl rfl ?_
  refine GG.val (fun w' b' => R.field rfl rfl (I.fld rfl)) rfl rfl ?_
  refine GG.val (fun w' b' => R.load rfl rfl (I.ld1 rfl (RowL.cell (h.up b') rfl))) rfl rfl ?_
  refine GG.val (fun w' b' => R.move rfl rfl) rfl rfl ?_
  refine GG.val (fun w' b' => R.field rfl rfl (I.fld rfl)) rfl rfl ?_
  refine GG.val (fun w' b' => R.load rfl rfl (I.ld1 rfl (RowL.cell (r12.up b') rfl))) rfl rfl ?_
  refine GG.val (fun w' b' => R.field rfl rfl (I.fld rfl)) rfl rfl ?_
  refine GG.val (fun w' b' => R.load rfl rfl (I.ld1 rfl (RowL.cell (r12.up b') rfl))) rfl rfl ?_
  refine GG.val (fun w' b' => R.buildV rfl rfl (v := .agg #[Value.int IntKind.i64 0, Value.int IntKind.i64 dir, Value.string { data := List.toArray p }, Value.int IntKind.i64 f.1, Value.int IntKind.i64 f.2.1]) (fun _ => by kernel_rfl)) rfl rfl ?_
  refine GG.nil (fun W137 b136 => ?_)
  have zb136 := b136.size
  replace r12 := r12.up b136
  replace b9 := b9.trans (b136.mono b9.size)
  replace gw := gw.up b136
  replace h := h.up b136
  replace hp := hp.up b136
  (refine LL.call (R.call rfl rfl rfl) rfl rfl rfl (end_any g (0, dir, p, f.1, f.2.1) h) ?_; rintro e W141 ⟨rfl, hN, t140⟩; clear h; have h := hN; clear hN; refine ⟨_, rfl, ?_⟩)
  have zt140 := t140.size
  replace r12 := r12.kept t140 ⟨r12.lt, by omega⟩
  replace gw := gw.kept t140 ⟨by omega, by omega⟩
  replace hp := hp.kept t140 ⟨by omega, by omega⟩
  refine LL.nil ?_
  refine EE.end _ rfl rfl ?_
  exact ⟨rfl, WkAt.fin h hp (Nat.zero_le _) _ _ _ rfl, gw⟩
theorem stop_no (p : Bs) (f : Fd) (h : RowL w g 60 (wkL wdZ false dir lv links fol true)) (hp : PsAt w B g lv ls) (hl : ls.length ≤ 100000) (he : ls ≠ []) : Calls Tryd.prog 41 #[.pointer (some ⟨g, 0, none⟩), strV p, fdV f] w fun e w' => e = .returned (.tuple #[]) ∧ WkAt w' g ⟨dir, [], links, fol, some (271, 0, [], 0, 0)⟩ ∧ Kept (fun j => j < w.heap.size ∧ j ≠ g) w w' := by
  have gw := Gw.refl g w
  have hB := hp.hB
  have hg := h.lt
  obtain ⟨a, c, rfl⟩ := hp.len
  have hn1 : 0 < ls.length := List.length_pos_iff.2 he
  refine X.fn Tryd.func41 rfl (n := 27) rfl rfl ?_
  refine CC.seq ?_
  refine CC.region ?_
  have l8 := h.lt
  refine LL.box [Value.int IntKind.i64 f.1, Value.int IntKind.i64 f.2.1, strV f.2.2] rfl rfl rfl rfl rfl ?_
  intro W10 g11 eg11 r12 z13 b9
  replace gw := gw.up b9
  replace h := h.up b9
  replace hp := hp.up b9
  refine LL.nilS ?_
  refine CC.seq ?_
  refine CC.seq ?_
  refine CC.region ?_
  refine LL.val (R.move rfl rfl) rfl rfl rfl ?_
  refine LL.val (R.nil rfl rfl) rfl rfl rfl ?_
  refine LL.val (R.field rfl rfl (I.fld rfl)) rfl rfl rfl ?_
  refine LL.val (R.load rfl rfl (I.ld1 rfl (RowL.cell h rfl))) rfl rfl rfl ?_
  refine LL.val (R.len rfl rfl rfl rfl) rfl rfl rfl ?_
  refine LL.val (R.gtT rfl rfl rfl (by omega)) rfl rfl rfl ?_
  refine LL.nilS ?_
  refine CC.yes rfl ?_
  refine CC.seq ?_
  refine CC.region ?_
  refine LL.val (R.move rfl rfl) rfl rfl rfl ?_
  refine LL.val (R.buildV rfl rfl (v := .agg #[Value.int IntKind.i64 271, Value.int IntKind.i64 0, Value.string { data := #[] }, Value.int IntKind.i64 0, Value.int IntKind.i64 0]) (fun _ => by kernel_rfl)) rfl rfl rfl ?_
  (refine LL.call (R.call rfl rfl rfl) rfl rfl rfl (end_any g (271, 0, [], 0, 0) h) ?_; rintro e W73 ⟨rfl, hN, t72⟩; clear h; have h := hN; clear hN; refine ⟨_, rfl, ?_⟩)
  have zt72 := t72.size
  replace r12 := r12.kept t72 ⟨r12.lt, by omega⟩
  replace gw := gw.kept t72 ⟨by omega, by omega⟩
  replace hp := hp.kept t72 ⟨by omega, by omega⟩
  refine LL.nilS ?_
  refine CC.ret ?_
  refine EE.thenR ?_
  refine EE.ret _ rfl rfl ?_
  exact ⟨rfl, WkAt.fin h hp hl _ _ _ rfl, gw⟩
theorem enter_stop (p : Bs) (f : Fd) (h : RowL w g 60 (wkL wdZ false dir lv links fol true)) (hp : PsAt w B g lv ls) (he : ls = []) : Calls Tryd.prog 51 #[.pointer (some ⟨g, 0, none⟩), strV p, fdV f] w fun e w' => e = .returned (.tuple #[]) ∧ WkAt w' g ⟨dir, [], links, fol, some (0, dir, p, f.1, f.2.1)⟩ ∧ Kept (fun j => j < w.heap.size ∧ j ≠ g) w w' := by
  subst he
  have gw := Gw.refl g w
  have hB := hp.hB
  have hg := h.lt
  obtain ⟨a, c, rfl⟩ : ∃ a c, lv = .slice a 0 c := hp.len
  refine X.fn Tryd.func51 rfl (n := 23) rfl rfl ?_
  refine CC.seq ?_
  refine CC.region ?_
  have l8 := h.lt
  refine LL.box [Value.int IntKind.i64 f.1, Value.int IntKind.i64 f.2.1, strV f.2.2] rfl rfl rfl rfl rfl ?_
  intro W10 g11 eg11 r12 z13 b9
  replace gw := gw.up b9
  replace h := h.up b9
  replace hp := hp.up b9
  refine LL.nilS ?_
  refine CC.seq ?_
  refine CC.seq ?_
  refine CC.region ?_
  refine LL.val (R.move rfl rfl) rfl rfl rfl ?_
  refine LL.val (R.nil rfl rfl) rfl rfl rfl ?_
  refine LL.val (R.field rfl rfl (I.fld rfl)) rfl rfl rfl ?_
  refine LL.val (R.load rfl rfl (I.ld1 rfl (RowL.cell h rfl))) rfl rfl rfl ?_
  refine LL.val (R.len rfl rfl rfl rfl) rfl rfl rfl ?_
  refine LL.val (R.eqT rfl rfl rfl (by omega)) rfl rfl rfl ?_
  refine LL.nilS ?_
  refine CC.yes rfl ?_
  refine CC.seq ?_
  refine CC.region ?_
  refine LL.val (R.move rfl rfl) rfl rfl rfl ?_
  refine LL.val (R.move rfl rfl) rfl rfl rfl ?_
  refine LL.val (R.load rfl rfl (I.ldNc (vs := [Value.int IntKind.i64 f.1, Value.int IntKind.i64 f.2.1, strV f.2.2]) (RowL.cells r12 rfl) (by rfl) (by rfl))) rfl rfl rfl ?_
  (refine LL.call (R.call rfl rfl rfl) rfl rfl rfl (stop_yes g p f h hp rfl) ?_; rintro e W80 ⟨rfl, hW, t79⟩; refine ⟨_, rfl, ?_⟩)
  have zt79 := t79.size
  replace r12 := r12.kept t79 ⟨r12.lt, by omega⟩
  replace gw := gw.kept t79 ⟨by omega, by omega⟩
  replace hp := hp.kept t79 ⟨by omega, by omega⟩
  refine LL.nilS ?_
  refine CC.ret ?_
  refine EE.thenR ?_
  refine EE.ret _ rfl rfl ?_
  exact ⟨rfl, hW, gw⟩
theorem enter_on (p : Bs) (f : Fd) (h : RowL w g 60 (wkL wdZ false dir lv links fol true)) (hp : PsAt w B g lv ls) (hl : ls.length ≤ 100000) (he : ls ≠ []) : Calls Tryd.prog 51 #[.pointer (some ⟨g, 0, none⟩), strV p, fdV f] w fun e w' => e = .returned (.tuple #[]) ∧ WkAt w' g (Wk.on ⟨f.1, ls, links, fol, none⟩) ∧ Kept (fun j => j < w.heap.size ∧ j ≠ g) w w' := by
  have gw := Gw.refl g w
  have hB := hp.hB
  have hg := h.lt
  obtain ⟨a, c, rfl⟩ := hp.len
  have hn1 : 0 < ls.length := List.length_pos_iff.2 he
  refine X.fn Tryd.func51 rfl (n := 23) rfl rfl ?_
  refine CC.seq ?_
  refine CC.region ?_
  have l8 := h.lt
  refine LL.box [Value.int IntKind.i64 f.1, Value.int IntKind.i64 f.2.1, strV f.2.2] rfl rfl rfl rfl rfl ?_
  intro W10 g11 eg11 r12 z13 b9
  replace gw := gw.up b9
  replace h := h.up b9
  replace hp := hp.up b9
  refine LL.nilS ?_
  refine CC.seq ?_
  refine CC.seq ?_
  refine CC.region ?_
  refine LL.val (R.move rfl rfl) rfl rfl rfl ?_
  refine LL.val (R.nil rfl rfl) rfl rfl rfl ?_
  refine LL.val (R.field rfl rfl (I.fld rfl)) rfl rfl rfl ?_
  refine LL.val (R.load rfl rfl (I.ld1 rfl (RowL.cell h rfl))) rfl rfl rfl ?_
  refine LL.val (R.len rfl rfl rfl rfl) rfl rfl rfl ?_
  refine LL.val (R.eqF rfl rfl rfl (by omega)) rfl rfl rfl ?_
  refine LL.nilS ?_
  refine CC.no rfl ?_
  refine CC.skip ?_
  refine EE.thenN ?_
  refine CC.seq ?_
  refine CC.region ?_
  refine LL.val (R.move rfl rfl) rfl rfl rfl ?_
  refine LL.val (R.field rfl rfl (I.fld rfl)) rfl rfl rfl ?_
  refine LL.val (R.load rfl rfl (I.ld1 rfl (RowL.cell r12 rfl))) rfl rfl rfl ?_
  refine LL.val (R.nil rfl rfl) rfl rfl rfl ?_
  refine LL.val (R.field rfl rfl (I.fld rfl)) rfl rfl rfl ?_
  refine LL.store rfl rfl rfl rfl h (by exact Nat.le_of_ble_eq_true rfl) rfl rfl rfl rfl ?_
  intro W99 r100 b98 z101
  have hlb98 := h.lt
  replace r100 : RowL W99 _ 60 [Value.int IntKind.i64 0, Value.int IntKind.i64 0, strV [], Value.int IntKind.i64 0, Value.int IntKind.i64 0, Value.bool false, Value.int IntKind.i64 f.1, Value.slice a ls.length c, Value.int IntKind.i64 ↑links, Value.bool fol, Value.bool true] := r100
  clear h
  replace r12 := r12.gr b98 (by have := r12.lt; omega)
  replace gw := gw.gr b98 (by omega)
  replace hp := hp.gr b98 (by omega)
  have h := r100
  clear r100
  refine LL.nilS ?_
  refine CC.region ?_
  refine LL.val (R.move rfl rfl) rfl rfl rfl ?_
  (refine LL.call (R.call rfl rfl rfl) rfl rfl rfl (on_any g h hp hl) ?_; rintro e W112 ⟨rfl, hW, t111⟩; refine ⟨_, rfl, ?_⟩)
  have zt111 := t111.size
  replace r12 := r12.kept t111 ⟨r12.lt, by omega⟩
  replace gw := gw.kept t111 ⟨by omega, by omega⟩
  replace hp := hp.kept t111 ⟨by omega, by omega⟩
  refine LL.nil ?_
  refine EE.end _ rfl rfl ?_
  exact ⟨rfl, hW, gw⟩
end
end Go.Proofs.YtbbddpnjglijdaaDoor
/- walk: link, doing, Give, Miss, Left, Copy, New (written by genwk5.py). -/
namespace Go.Proofs.YtbbddpnjglijdaaDoor
set_option linter.unusedVariables false
set_option linter.unusedSimpArgs false
open Go.RowKit Go.Shelf
set_option maxRecDepth 100000
set_option maxHeartbeats 8000000
theorem Mx.gr {w w' : World} {r : Nat} (h : Mx w) (hb : w.grownBy w' (some r)) (e : 0 < r) : Mx w' := by
  obtain ⟨m, hm⟩ := h.h
  exact ⟨⟨m, (World.cell?_of_block (hb.block 0 h.lt (by intro e2; cases e2; omega))).trans hm⟩, Nat.lt_of_lt_of_le h.lt hb.size⟩
theorem Mx.kept {w w' : World} {r : Nat} (h : Mx w) (hk : Kept (fun j => j < w.heap.size ∧ j ≠ r) w w') (e : r = r ∧ 0 < r) : Mx w' := by
  obtain ⟨m, hm⟩ := h.h
  exact ⟨⟨m, (World.cell?_of_block (hk.block 0 ⟨h.lt, by omega⟩)).trans hm⟩, Nat.lt_of_lt_of_le h.lt hk.size⟩
section
variable (g : Nat) {fol : Bool} {dir : Int} {links : Nat} {lv : Value} {ls : List Bs} {w : World} {B : Nat}
theorem link_stop (p : Bs) (f : Fd) (h : RowL w g 60 (wkL wdZ false dir lv links fol true)) (hp : PsAt w B g lv ls) (he : ls = []) (hf : fol = false) : Calls Tryd.prog 50 #[.pointer (some ⟨g, 0, none⟩), strV p, fdV f] w fun e w' => e = .returned (.tuple #[]) ∧ WkAt w' g ⟨dir, [], links, fol, some (0, dir, p, f.1, f.2.1)⟩ ∧ Kept (fun j => j < w.heap.size ∧ j ≠ g) w w' := by
  subst he hf
  have gw := Gw.refl g w
  have hB := hp.hB
  have hg := h.lt
  obtain ⟨a, c, rfl⟩ : ∃ a c, lv = .slice a 0 c := hp.len
  refine X.fn Tryd.func50 rfl (n := 66) rfl rfl ?_
  refine CC.seq ?_
  refine CC.region ?_
  have l8 := h.lt
  refine LL.box [Value.int IntKind.i64 f.1, Value.int IntKind.i64 f.2.1, strV f.2.2] rfl rfl rfl rfl rfl ?_
  intro W10 g11 eg11 r12 z13 b9
  replace gw := gw.up b9
  replace hp := hp.up b9
  replace h := h.up b9
  refine LL.nilS ?_
  refine CC.seq ?_
  refine CC.seq ?_
  refine CC.region ?_
  refine LL.val (R.move rfl rfl) rfl rfl rfl ?_
  refine LL.val (R.nil rfl rfl) rfl rfl rfl ?_
  refine LL.val (R.field rfl rfl (I.fld rfl)) rfl rfl rfl ?_
  refine LL.val (R.load rfl rfl (I.ld1 rfl (RowL.cell h rfl))) rfl rfl rfl ?_
  refine LL.val (R.len rfl rfl rfl rfl) rfl rfl rfl ?_
  refine LL.val (R.eqT rfl rfl rfl (by omega)) rfl rfl rfl ?_
  refine LL.val (R.move rfl rfl) rfl rfl rfl ?_
  refine LL.val (R.move rfl rfl) rfl rfl rfl ?_
  refine LL.val (R.nil rfl rfl) rfl rfl rfl ?_
  refine LL.val (R.field rfl rfl (I.fld rfl)) rfl rfl rfl ?_
  refine LL.val (R.load rfl rfl (I.ld1 rfl (RowL.cell h rfl))) rfl rfl rfl ?_
  refine LL.val (R.not rfl rfl) rfl rfl rfl ?_
  refine LL.val (R.pick rfl rfl rfl) rfl rfl rfl ?_
  refine LL.nilS ?_
  refine CC.yes rfl ?_
  refine CC.seq ?_
  refine CC.region ?_
  refine LL.val (R.move rfl rfl) rfl rfl rfl ?_
  refine LL.val (R.move rfl rfl) rfl rfl rfl ?_
  refine LL.val (R.load rfl rfl (I.ldNc (vs := [Value.int IntKind.i64 f.1, Value.int IntKind.i64 f.2.1, strV f.2.2]) (RowL.cells r12 rfl) (by rfl) (by rfl))) rfl rfl rfl ?_
  (refine LL.call (R.call rfl rfl rfl) rfl rfl rfl (stop_yes g p f h hp rfl) ?_; rintro e W129 ⟨rfl, hW, t128⟩; refine ⟨_, rfl, ?_⟩)
  have zt128 := t128.size
  replace r12 := r12.kept t128 ⟨r12.lt, by omega⟩
  replace gw := gw.kept t128 ⟨by omega, by omega⟩
  replace hp := hp.kept t128 ⟨by omega, by omega⟩
  refine LL.nilS ?_
  refine CC.ret ?_
  refine EE.thenR ?_
  refine EE.ret _ rfl rfl ?_
  exact ⟨rfl, hW, gw⟩
theorem link_go (p : Bs) (f : Fd) (h : RowL w g 60 (wkL wdZ false dir lv links fol true)) (hp : PsAt w B g lv ls) (hl : ls.length ≤ 50000) (he : ls ≠ [] ∨ fol = true) (hm : Mx w) (hg0 : 0 < g) (hk : links ≤ 8) (ht : f.2.2.length ≤ 1048576) : Calls Tryd.prog 50 #[.pointer (some ⟨g, 0, none⟩), strV p, fdV f] w fun e w' => e = .returned (.tuple #[]) ∧ WkAt w' g (Wk.link ⟨dir, ls, links, fol, none⟩ f.2.2) ∧ Kept (fun j => j < w.heap.size ∧ j ≠ g) w w' := by
  have gw := Gw.refl g w
  have hB := hp.hB
  have hg := h.lt
  obtain ⟨a, c, rfl⟩ := hp.len
  obtain ⟨n, hn⟩ : ∃ n, ls.length = n := ⟨_, rfl⟩
  rw [hn] at h hp hl
  obtain ⟨fi, fk, t⟩ := f
  dsimp only at ht ⊢
  have he' : fol = false → 0 < n := fun hf => by
    rcases he with he | he
    · rw [← hn]
      exact List.length_pos_iff.2 he
    · rw [hf] at he
      cases he
  clear he
  unfold Wk.link lpath
  dsimp only
  by_cases h8 : 8 < links + 1
  · rw [if_pos h8]
    cases fol with
    | true =>
      refine X.fn Tryd.func50 rfl (n := 66) rfl rfl ?_
      refine CC.seq ?_
      refine CC.region ?_
      have l8 := h.lt
      refine LL.box [Value.int IntKind.i64 fi, Value.int IntKind.i64 fk, strV t] rfl rfl rfl rfl rfl ?_
      intro W10 g11 eg11 r12 z13 b9
      replace hm := hm.up b9
      replace gw := gw.up b9
      replace hp := hp.up b9
      replace h := h.up b9
      refine LL.nilS ?_
      refine CC.seq ?_
      refine CC.seq ?_
      refine CC.region ?_
      refine LL.val (R.move rfl rfl) rfl rfl rfl ?_
      refine LL.val (R.nil rfl rfl) rfl rfl rfl ?_
      refine LL.val (R.field rfl rfl (I.fld rfl)) rfl rfl rfl ?_
      refine LL.val (R.load rfl rfl (I.ld1 rfl (RowL.cell h rfl))) rfl rfl rfl ?_
      refine LL.val (R.len rfl rfl rfl rfl) rfl rfl rfl ?_
      refine LL.vsplit (fun h => R.eqT rfl rfl rfl h) (fun h => R.eqF rfl rfl rfl h) rfl rfl rfl (fun c56 => ?_) (fun c56 => ?_)
      refine LL.val (R.move rfl rfl) rfl rfl rfl ?_
      refine LL.val (R.move rfl rfl) rfl rfl rfl ?_
      refine LL.val (R.nil rfl rfl) rfl rfl rfl ?_
      refine LL.val (R.field rfl rfl (I.fld rfl)) rfl rfl rfl ?_
      refine LL.val (R.load rfl rfl (I.ld1 rfl (RowL.cell h rfl))) rfl rfl rfl ?_
      refine LL.val (R.not rfl rfl) rfl rfl rfl ?_
      refine LL.val (R.pick rfl rfl rfl) rfl rfl rfl ?_
      refine LL.nilS ?_
      refine CC.no rfl ?_
      refine CC.skip ?_
      refine EE.thenN ?_
      refine CC.seq ?_
      refine CC.region ?_
      refine LL.val (R.move rfl rfl) rfl rfl rfl ?_
      refine LL.val (R.nil rfl rfl) rfl rfl rfl ?_
      refine LL.val (R.field rfl rfl (I.fld rfl)) rfl rfl rfl ?_
      refine LL.val (R.load rfl rfl (I.ld1 rfl (RowL.cell h rfl))) rfl rfl rfl ?_
      refine LL.val (R.addNc rfl rfl rfl rfl (by omega)) rfl rfl rfl ?_
      refine LL.val (R.nil rfl rfl) rfl rfl rfl ?_
      refine LL.val (R.field rfl rfl (I.fld rfl)) rfl rfl rfl ?_
      refine LL.store rfl rfl rfl rfl h (by exact Nat.le_of_ble_eq_true rfl) rfl rfl rfl rfl ?_
      intro W163 r164 b162 z165
      have hlb162 := h.lt
      replace r164 : RowL W163 _ 60 [Value.int IntKind.i64 0, Value.int IntKind.i64 0, strV [], Value.int IntKind.i64 0, Value.int IntKind.i64 0, Value.bool false, Value.int IntKind.i64 dir, Value.slice a n c, Value.int IntKind.i64 ↑(links + 1), Value.bool true, Value.bool true] := r164
      clear h
      replace r12 := r12.gr b162 (by have := r12.lt; omega)
      replace hm := hm.gr b162 (by have := hm.lt; omega)
      replace gw := gw.gr b162 (by omega)
      replace hp := hp.gr b162 (by omega)
      have h := r164
      clear r164
      refine LL.nilS ?_
      refine CC.seq ?_
      refine CC.seq ?_
      refine CC.region ?_
      refine LL.val (R.move rfl rfl) rfl rfl rfl ?_
      refine LL.val (R.nil rfl rfl) rfl rfl rfl ?_
      refine LL.val (R.field rfl rfl (I.fld rfl)) rfl rfl rfl ?_
      refine LL.val (R.load rfl rfl (I.ld1 rfl (RowL.cell h rfl))) rfl rfl rfl ?_
      refine LL.val (R.gtT rfl rfl rfl (by omega)) rfl rfl rfl ?_
      refine LL.nilS ?_
      refine CC.yes rfl ?_
      refine CC.seq ?_
      refine CC.region ?_
      refine LL.val (R.move rfl rfl) rfl rfl rfl ?_
      refine LL.val (R.buildV rfl rfl (v := .agg #[Value.int IntKind.i64 272, Value.int IntKind.i64 0, Value.string { data := #[] }, Value.int IntKind.i64 0, Value.int IntKind.i64 0]) (fun _ => by kernel_rfl)) rfl rfl rfl ?_
      (refine LL.call (R.call rfl rfl rfl) rfl rfl rfl (end_any g (272, 0, [], 0, 0) h) ?_; rintro e W218 ⟨rfl, hN, t217⟩; clear h; have h := hN; clear hN; refine ⟨_, rfl, ?_⟩)
      have zt217 := t217.size
      replace r12 := r12.kept t217 ⟨r12.lt, by omega⟩
      replace hm := hm.kept t217 ⟨by omega, by omega⟩
      replace gw := gw.kept t217 ⟨by omega, by omega⟩
      replace hp := hp.kept t217 ⟨by omega, by omega⟩
      refine LL.nilS ?_
      refine CC.ret ?_
      refine EE.thenR ?_
      refine EE.ret _ rfl rfl ?_
      exact ⟨rfl, WkAt.fin h hp (by omega) _ _ _ rfl, gw⟩
      refine LL.val (R.move rfl rfl) rfl rfl rfl ?_
      refine LL.skip rfl rfl ?_
      refine LL.skip rfl rfl ?_
      refine LL.skip rfl rfl ?_
      refine LL.skip rfl rfl ?_
      refine LL.skip rfl rfl ?_
      refine LL.val (R.pick rfl rfl rfl) rfl rfl rfl ?_
      refine LL.nilS ?_
      refine CC.no rfl ?_
      refine CC.skip ?_
      refine EE.thenN ?_
      refine CC.seq ?_
      refine CC.region ?_
      refine LL.val (R.move rfl rfl) rfl rfl rfl ?_
      refine LL.val (R.nil rfl rfl) rfl rfl rfl ?_
      refine LL.val (R.field rfl rfl (I.fld rfl)) rfl rfl rfl ?_
      refine LL.val (R.load rfl rfl (I.ld1 rfl (RowL.cell h rfl))) rfl rfl rfl ?_
      refine LL.val (R.addNc rfl rfl rfl rfl (by omega)) rfl rfl rfl ?_
      refine LL.val (R.nil rfl rfl) rfl rfl rfl ?_
      refine LL.val (R.field rfl rfl (I.fld rfl)) rfl rfl rfl ?_
      refine LL.store rfl rfl rfl rfl h (by exact Nat.le_of_ble_eq_true rfl) rfl rfl rfl rfl ?_
      intro W293 r294 b292 z295
      have hlb292 := h.lt
      replace r294 : RowL W293 _ 60 [Value.int IntKind.i64 0, Value.int IntKind.i64 0, strV [], Value.int IntKind.i64 0, Value.int IntKind.i64 0, Value.bool false, Value.int IntKind.i64 dir, Value.slice a n c, Value.int IntKind.i64 ↑(links + 1), Value.bool true, Value.bool true] := r294
      clear h
      replace r12 := r12.gr b292 (by have := r12.lt; omega)
      replace hm := hm.gr b292 (by have := hm.lt; omega)
      replace gw := gw.gr b292 (by omega)
      replace hp := hp.gr b292 (by omega)
      have h := r294
      clear r294
      refine LL.nilS ?_
      refine CC.seq ?_
      refine CC.seq ?_
      refine CC.region ?_
      refine LL.val (R.move rfl rfl) rfl rfl rfl ?_
      refine LL.val (R.nil rfl rfl) rfl rfl rfl ?_
      refine LL.val (R.field rfl rfl (I.fld rfl)) rfl rfl rfl ?_
      refine LL.val (R.load rfl rfl (I.ld1 rfl (RowL.cell h rfl))) rfl rfl rfl ?_
      refine LL.val (R.gtT rfl rfl rfl (by omega)) rfl rfl rfl ?_
      refine LL.nilS ?_
      refine CC.yes rfl ?_
      refine CC.seq ?_
      refine CC.region ?_
      refine LL.val (R.move rfl rfl) rfl rfl rfl ?_
      refine LL.val (R.buildV rfl rfl (v := .agg #[Value.int IntKind.i64 272, Value.int IntKind.i64 0, Value.string { data := #[] }, Value.int IntKind.i64 0, Value.int IntKind.i64 0]) (fun _ => by kernel_rfl)) rfl rfl rfl ?_
      (refine LL.call (R.call rfl rfl rfl) rfl rfl rfl (end_any g (272, 0, [], 0, 0) h) ?_; rintro e W348 ⟨rfl, hN, t347⟩; clear h; have h := hN; clear hN; refine ⟨_, rfl, ?_⟩)
      have zt347 := t347.size
      replace r12 := r12.kept t347 ⟨r12.lt, by omega⟩
      replace hm := hm.kept t347 ⟨by omega, by omega⟩
      replace gw := gw.kept t347 ⟨by omega, by omega⟩
      replace hp := hp.kept t347 ⟨by omega, by omega⟩
      refine LL.nilS ?_
      refine CC.ret ?_
      refine EE.thenR ?_
      refine EE.ret _ rfl rfl ?_
      exact ⟨rfl, WkAt.fin h hp (by omega) _ _ _ rfl, gw⟩
    | false =>
      have := he' rfl
      refine X.fn Tryd.func50 rfl (n := 66) rfl rfl ?_
      refine CC.seq ?_
      refine CC.region ?_
      have la8 := h.lt
      refine LL.box [Value.int IntKind.i64 fi, Value.int IntKind.i64 fk, strV t] rfl rfl rfl rfl rfl ?_
      intro Wa10 ga11 ega11 ra12 za13 ba9
      replace hm := hm.up ba9
      replace gw := gw.up ba9
      replace hp := hp.up ba9
      replace h := h.up ba9
      refine LL.nilS ?_
      refine CC.seq ?_
      refine CC.seq ?_
      refine CC.region ?_
      refine LL.val (R.move rfl rfl) rfl rfl rfl ?_
      refine LL.val (R.nil rfl rfl) rfl rfl rfl ?_
      refine LL.val (R.field rfl rfl (I.fld rfl)) rfl rfl rfl ?_
      refine LL.val (R.load rfl rfl (I.ld1 rfl (RowL.cell h rfl))) rfl rfl rfl ?_
      refine LL.val (R.len rfl rfl rfl rfl) rfl rfl rfl ?_
      refine LL.val (R.eqF rfl rfl rfl (by omega)) rfl rfl rfl ?_
      refine LL.val (R.move rfl rfl) rfl rfl rfl ?_
      refine LL.skip rfl rfl ?_
      refine LL.skip rfl rfl ?_
      refine LL.skip rfl rfl ?_
      refine LL.skip rfl rfl ?_
      refine LL.skip rfl rfl ?_
      refine LL.val (R.pick rfl rfl rfl) rfl rfl rfl ?_
      refine LL.nilS ?_
      refine CC.no rfl ?_
      refine CC.skip ?_
      refine EE.thenN ?_
      refine CC.seq ?_
      refine CC.region ?_
      refine LL.val (R.move rfl rfl) rfl rfl rfl ?_
      refine LL.val (R.nil rfl rfl) rfl rfl rfl ?_
      refine LL.val (R.field rfl rfl (I.fld rfl)) rfl rfl rfl ?_
      refine LL.val (R.load rfl rfl (I.ld1 rfl (RowL.cell h rfl))) rfl rfl rfl ?_
      refine LL.val (R.addNc rfl rfl rfl rfl (by omega)) rfl rfl rfl ?_
      refine LL.val (R.nil rfl rfl) rfl rfl rfl ?_
      refine LL.val (R.field rfl rfl (I.fld rfl)) rfl rfl rfl ?_
      refine LL.store rfl rfl rfl rfl h (by exact Nat.le_of_ble_eq_true rfl) rfl rfl rfl rfl ?_
      intro Wa127 ra128 ba126 za129
      have hlba126 := h.lt
      replace ra128 : RowL Wa127 _ 60 [Value.int IntKind.i64 0, Value.int IntKind.i64 0, strV [], Value.int IntKind.i64 0, Value.int IntKind.i64 0, Value.bool false, Value.int IntKind.i64 dir, Value.slice a n c, Value.int IntKind.i64 ↑(links + 1), Value.bool false, Value.bool true] := ra128
      clear h
      replace ra12 := ra12.gr ba126 (by have := ra12.lt; omega)
      replace hm := hm.gr ba126 (by have := hm.lt; omega)
      replace gw := gw.gr ba126 (by omega)
      replace hp := hp.gr ba126 (by omega)
      have h := ra128
      clear ra128
      refine LL.nilS ?_
      refine CC.seq ?_
      refine CC.seq ?_
      refine CC.region ?_
      refine LL.val (R.move rfl rfl) rfl rfl rfl ?_
      refine LL.val (R.nil rfl rfl) rfl rfl rfl ?_
      refine LL.val (R.field rfl rfl (I.fld rfl)) rfl rfl rfl ?_
      refine LL.val (R.load rfl rfl (I.ld1 rfl (RowL.cell h rfl))) rfl rfl rfl ?_
      refine LL.val (R.gtT rfl rfl rfl (by omega)) rfl rfl rfl ?_
      refine LL.nilS ?_
      refine CC.yes rfl ?_
      refine CC.seq ?_
      refine CC.region ?_
      refine LL.val (R.move rfl rfl) rfl rfl rfl ?_
      refine LL.val (R.buildV rfl rfl (v := .agg #[Value.int IntKind.i64 272, Value.int IntKind.i64 0, Value.string { data := #[] }, Value.int IntKind.i64 0, Value.int IntKind.i64 0]) (fun _ => by kernel_rfl)) rfl rfl rfl ?_
      (refine LL.call (R.call rfl rfl rfl) rfl rfl rfl (end_any g (272, 0, [], 0, 0) h) ?_; rintro e Wa182 ⟨rfl, hN, ta181⟩; clear h; have h := hN; clear hN; refine ⟨_, rfl, ?_⟩)
      have zta181 := ta181.size
      replace ra12 := ra12.kept ta181 ⟨ra12.lt, by omega⟩
      replace hm := hm.kept ta181 ⟨by omega, by omega⟩
      replace gw := gw.kept ta181 ⟨by omega, by omega⟩
      replace hp := hp.kept ta181 ⟨by omega, by omega⟩
      refine LL.nilS ?_
      refine CC.ret ?_
      refine EE.thenR ?_
      refine EE.ret _ rfl rfl ?_
      exact ⟨rfl, WkAt.fin h hp (by omega) _ _ _ rfl, gw⟩
  rw [if_neg h8]
  by_cases hh : t.head? = some 47
  case pos =>
    rw [if_pos hh, if_pos hh]
    obtain ⟨L, hL⟩ : ∃ L, t = L := ⟨_, rfl⟩
    have hLl : L.length ≤ 1048577 := by rw [← hL]; omega
    subst hL
    by_cases hz : pathN t = 0
    · rw [if_pos hz]
      have hpl := partsL_len0 hz
      have hpre := fun X => prefix_any t X
      rw [decide_eq_true hh] at hpre
      cases fol with
      | true =>
        refine X.fn Tryd.func50 rfl (n := 66) rfl rfl ?_
        refine CC.seq ?_
        refine CC.region ?_
        have lb23 := h.lt
        refine LL.box [Value.int IntKind.i64 fi, Value.int IntKind.i64 fk, strV t] rfl rfl rfl rfl rfl ?_
        intro Wb25 gb26 egb26 rb27 zb28 bb24
        replace hm := hm.up bb24
        replace gw := gw.up bb24
        replace hp := hp.up bb24
        replace h := h.up bb24
        refine LL.nilS ?_
        refine CC.seq ?_
        refine CC.seq ?_
        refine CC.region ?_
        refine LL.val (R.move rfl rfl) rfl rfl rfl ?_
        refine LL.val (R.nil rfl rfl) rfl rfl rfl ?_
        refine LL.val (R.field rfl rfl (I.fld rfl)) rfl rfl rfl ?_
        refine LL.val (R.load rfl rfl (I.ld1 rfl (RowL.cell h rfl))) rfl rfl rfl ?_
        refine LL.val (R.len rfl rfl rfl rfl) rfl rfl rfl ?_
        refine LL.vsplit (fun h => R.eqT rfl rfl rfl h) (fun h => R.eqF rfl rfl rfl h) rfl rfl rfl (fun cb167 => ?_) (fun cb167 => ?_)
        refine LL.val (R.move rfl rfl) rfl rfl rfl ?_
        refine LL.val (R.move rfl rfl) rfl rfl rfl ?_
        refine LL.val (R.nil rfl rfl) rfl rfl rfl ?_
        refine LL.val (R.field rfl rfl (I.fld rfl)) rfl rfl rfl ?_
        refine LL.val (R.load rfl rfl (I.ld1 rfl (RowL.cell h rfl))) rfl rfl rfl ?_
        refine LL.val (R.not rfl rfl) rfl rfl rfl ?_
        refine LL.val (R.pick rfl rfl rfl) rfl rfl rfl ?_
        refine LL.nilS ?_
        refine CC.no rfl ?_
        refine CC.skip ?_
        refine EE.thenN ?_
        refine CC.seq ?_
        refine CC.region ?_
        refine LL.val (R.move rfl rfl) rfl rfl rfl ?_
        refine LL.val (R.nil rfl rfl) rfl rfl rfl ?_
        refine LL.val (R.field rfl rfl (I.fld rfl)) rfl rfl rfl ?_
        refine LL.val (R.load rfl rfl (I.ld1 rfl (RowL.cell h rfl))) rfl rfl rfl ?_
        refine LL.val (R.addNc rfl rfl rfl rfl (by omega)) rfl rfl rfl ?_
        refine LL.val (R.nil rfl rfl) rfl rfl rfl ?_
        refine LL.val (R.field rfl rfl (I.fld rfl)) rfl rfl rfl ?_
        refine LL.store rfl rfl rfl rfl h (by exact Nat.le_of_ble_eq_true rfl) rfl rfl rfl rfl ?_
        intro Wb514 rb515 bb513 zb516
        have hlbb513 := h.lt
        replace rb515 : RowL Wb514 _ 60 [Value.int IntKind.i64 0, Value.int IntKind.i64 0, strV [], Value.int IntKind.i64 0, Value.int IntKind.i64 0, Value.bool false, Value.int IntKind.i64 dir, Value.slice a n c, Value.int IntKind.i64 ↑(links + 1), Value.bool true, Value.bool true] := rb515
        clear h
        replace rb27 := rb27.gr bb513 (by have := rb27.lt; omega)
        replace hm := hm.gr bb513 (by have := hm.lt; omega)
        replace gw := gw.gr bb513 (by omega)
        replace hp := hp.gr bb513 (by omega)
        have h := rb515
        clear rb515
        refine LL.nilS ?_
        refine CC.seq ?_
        refine CC.seq ?_
        refine CC.region ?_
        refine LL.val (R.move rfl rfl) rfl rfl rfl ?_
        refine LL.val (R.nil rfl rfl) rfl rfl rfl ?_
        refine LL.val (R.field rfl rfl (I.fld rfl)) rfl rfl rfl ?_
        refine LL.val (R.load rfl rfl (I.ld1 rfl (RowL.cell h rfl))) rfl rfl rfl ?_
        refine LL.val (R.gtF rfl rfl rfl (by omega)) rfl rfl rfl ?_
        refine LL.nilS ?_
        refine CC.no rfl ?_
        refine CC.skip ?_
        refine EE.thenN ?_
        refine CC.seq ?_
        refine CC.region ?_
        refine LL.val (R.field rfl rfl (I.fld rfl)) rfl rfl rfl ?_
        refine LL.val (R.load rfl rfl (I.ld1 rfl (RowL.cell rb27 rfl))) rfl rfl rfl ?_
        refine LL.val (R.assign rfl rfl) rfl rfl rfl ?_
        refine LL.nilS ?_
        refine CC.seq ?_
        refine CC.seq ?_
        refine CC.region ?_
        refine LL.val (R.move rfl rfl) rfl rfl rfl ?_
        (refine LL.call (R.call rfl rfl rfl) rfl rfl rfl (hpre _) ?_; rintro e W' ⟨rfl, rfl⟩; refine ⟨_, rfl, ?_⟩)
        refine LL.nilS ?_
        refine CC.yes rfl ?_
        refine CC.region ?_
        refine LL.val (R.move rfl rfl) rfl rfl rfl ?_
        refine LL.val (R.nil rfl rfl) rfl rfl rfl ?_
        refine LL.val (R.field rfl rfl (I.fld rfl)) rfl rfl rfl ?_
        refine LL.store rfl rfl rfl rfl h (by exact Nat.le_of_ble_eq_true rfl) rfl rfl rfl rfl ?_
        intro Wb817 rb818 bb816 zb819
        have hlbb816 := h.lt
        replace rb818 : RowL Wb817 _ 60 [Value.int IntKind.i64 0, Value.int IntKind.i64 0, strV [], Value.int IntKind.i64 0, Value.int IntKind.i64 0, Value.bool false, Value.int IntKind.i64 1, Value.slice a n c, Value.int IntKind.i64 ↑(links + 1), Value.bool true, Value.bool true] := rb818
        clear h
        replace rb27 := rb27.gr bb816 (by have := rb27.lt; omega)
        replace hm := hm.gr bb816 (by have := hm.lt; omega)
        replace gw := gw.gr bb816 (by omega)
        replace hp := hp.gr bb816 (by omega)
        have h := rb818
        clear rb818
        refine LL.nilS ?_
        refine CC.seq ?_
        refine CC.region ?_
        refine LL.val (R.move rfl rfl) rfl rfl rfl ?_
        have lb847 := rb27.lt
        have lb848 := h.lt
        (refine LL.call (R.call rfl rfl rfl) rfl rfl rfl (wparts_any t _ (by assumption) (by omega)) ?_; rintro e Wb846 ⟨vp, rfl, op, bb843⟩; refine ⟨_, rfl, ?_⟩; rw [if_pos hz] at op; rw [hz]; obtain ⟨ap, cp, rfl, hcp⟩ := (op.reads stEnc).form rfl)
        have zbb843 := bb843.size
        replace rb27 := rb27.up bb843
        replace hm := hm.up bb843
        replace gw := gw.up bb843
        replace hp := hp.up bb843
        replace h := h.up bb843
        refine LL.val (R.move rfl rfl) rfl rfl rfl ?_
        refine LL.val (R.extract rfl rfl rfl) rfl rfl rfl ?_
        refine LL.val (R.extract rfl rfl rfl) rfl rfl rfl ?_
        refine LL.val (R.assign rfl rfl) rfl rfl rfl ?_
        refine LL.val (R.assign rfl rfl) rfl rfl rfl ?_
        refine LL.nilS ?_
        refine CC.seq ?_
        refine CC.seq ?_
        refine CC.region ?_
        refine LL.val (R.move rfl rfl) rfl rfl rfl ?_
        refine LL.val (R.neF rfl rfl rfl (by omega)) rfl rfl rfl ?_
        refine LL.nilS ?_
        refine CC.no rfl ?_
        refine CC.skip ?_
        refine EE.thenN ?_
        refine CC.seq ?_
        refine CC.region ?_
        refine LL.val (R.move rfl rfl) rfl rfl rfl ?_
        refine LL.val (R.move rfl rfl) rfl rfl rfl ?_
        (refine LL.call (R.call rfl rfl rfl) rfl rfl rfl (lead_any g _ (partsL t) ls h (op.reads stEnc) hp (by omega) (by omega)) ?_; rintro e Wb1071 ⟨rfl, ⟨v2, B2, hN, hp2⟩, tb1070⟩; clear h; have h := hN; clear hN op; refine ⟨_, rfl, ?_⟩)
        have ztb1070 := tb1070.size
        replace rb27 := rb27.kept tb1070 ⟨rb27.lt, by omega⟩
        replace hm := hm.kept tb1070 ⟨by omega, by omega⟩
        replace gw := gw.kept tb1070 ⟨by omega, by omega⟩
        replace hp := hp.kept tb1070 ⟨by omega, by omega⟩
        refine LL.nilS ?_
        refine CC.region ?_
        refine LL.val (R.move rfl rfl) rfl rfl rfl ?_
        (refine LL.call (R.call rfl rfl rfl) rfl rfl rfl (on_any g h hp2 (by rw [List.length_append]; omega)) ?_; rintro e Wb1117 ⟨rfl, hW, tb1116⟩; refine ⟨_, rfl, ?_⟩)
        have ztb1116 := tb1116.size
        replace hp2 := hp2.kept tb1116 ⟨by omega, by omega⟩
        replace rb27 := rb27.kept tb1116 ⟨rb27.lt, by omega⟩
        replace hm := hm.kept tb1116 ⟨by omega, by omega⟩
        replace gw := gw.kept tb1116 ⟨by omega, by omega⟩
        replace hp := hp.kept tb1116 ⟨by omega, by omega⟩
        refine LL.nil ?_
        refine EE.end _ rfl rfl ?_
        exact ⟨rfl, hW, gw⟩
        refine LL.val (R.move rfl rfl) rfl rfl rfl ?_
        refine LL.skip rfl rfl ?_
        refine LL.skip rfl rfl ?_
        refine LL.skip rfl rfl ?_
        refine LL.skip rfl rfl ?_
        refine LL.skip rfl rfl ?_
        refine LL.val (R.pick rfl rfl rfl) rfl rfl rfl ?_
        refine LL.nilS ?_
        refine CC.no rfl ?_
        refine CC.skip ?_
        refine EE.thenN ?_
        refine CC.seq ?_
        refine CC.region ?_
        refine LL.val (R.move rfl rfl) rfl rfl rfl ?_
        refine LL.val (R.nil rfl rfl) rfl rfl rfl ?_
        refine LL.val (R.field rfl rfl (I.fld rfl)) rfl rfl rfl ?_
        refine LL.val (R.load rfl rfl (I.ld1 rfl (RowL.cell h rfl))) rfl rfl rfl ?_
        refine LL.val (R.addNc rfl rfl rfl rfl (by omega)) rfl rfl rfl ?_
        refine LL.val (R.nil rfl rfl) rfl rfl rfl ?_
        refine LL.val (R.field rfl rfl (I.fld rfl)) rfl rfl rfl ?_
        refine LL.store rfl rfl rfl rfl h (by exact Nat.le_of_ble_eq_true rfl) rfl rfl rfl rfl ?_
        intro Wb1352 rb1353 bb1351 zb1354
        have hlbb1351 := h.lt
        replace rb1353 : RowL Wb1352 _ 60 [Value.int IntKind.i64 0, Value.int IntKind.i64 0, strV [], Value.int IntKind.i64 0, Value.int IntKind.i64 0, Value.bool false, Value.int IntKind.i64 dir, Value.slice a n c, Value.int IntKind.i64 ↑(links + 1), Value.bool true, Value.bool true] := rb1353
        clear h
        replace rb27 := rb27.gr bb1351 (by have := rb27.lt; omega)
        replace hm := hm.gr bb1351 (by have := hm.lt; omega)
        replace gw := gw.gr bb1351 (by omega)
        replace hp := hp.gr bb1351 (by omega)
        have h := rb1353
        clear rb1353
        refine LL.nilS ?_
        refine CC.seq ?_
        refine CC.seq ?_
        refine CC.region ?_
        refine LL.val (R.move rfl rfl) rfl rfl rfl ?_
        refine LL.val (R.nil rfl rfl) rfl rfl rfl ?_
        refine LL.val (R.field rfl rfl (I.fld rfl)) rfl rfl rfl ?_
        refine LL.val (R.load rfl rfl (I.ld1 rfl (RowL.cell h rfl))) rfl rfl rfl ?_
        refine LL.val (R.gtF rfl rfl rfl (by omega)) rfl rfl rfl ?_
        refine LL.nilS ?_
        refine CC.no rfl ?_
        refine CC.skip ?_
        refine EE.thenN ?_
        refine CC.seq ?_
        refine CC.region ?_
        refine LL.val (R.field rfl rfl (I.fld rfl)) rfl rfl rfl ?_
        refine LL.val (R.load rfl rfl (I.ld1 rfl (RowL.cell rb27 rfl))) rfl rfl rfl ?_
        refine LL.val (R.assign rfl rfl) rfl rfl rfl ?_
        refine LL.nilS ?_
        refine CC.seq ?_
        refine CC.seq ?_
        refine CC.region ?_
        refine LL.val (R.move rfl rfl) rfl rfl rfl ?_
        (refine LL.call (R.call rfl rfl rfl) rfl rfl rfl (hpre _) ?_; rintro e W' ⟨rfl, rfl⟩; refine ⟨_, rfl, ?_⟩)
        refine LL.nilS ?_
        refine CC.yes rfl ?_
        refine CC.region ?_
        refine LL.val (R.move rfl rfl) rfl rfl rfl ?_
        refine LL.val (R.nil rfl rfl) rfl rfl rfl ?_
        refine LL.val (R.field rfl rfl (I.fld rfl)) rfl rfl rfl ?_
        refine LL.store rfl rfl rfl rfl h (by exact Nat.le_of_ble_eq_true rfl) rfl rfl rfl rfl ?_
        intro Wb1655 rb1656 bb1654 zb1657
        have hlbb1654 := h.lt
        replace rb1656 : RowL Wb1655 _ 60 [Value.int IntKind.i64 0, Value.int IntKind.i64 0, strV [], Value.int IntKind.i64 0, Value.int IntKind.i64 0, Value.bool false, Value.int IntKind.i64 1, Value.slice a n c, Value.int IntKind.i64 ↑(links + 1), Value.bool true, Value.bool true] := rb1656
        clear h
        replace rb27 := rb27.gr bb1654 (by have := rb27.lt; omega)
        replace hm := hm.gr bb1654 (by have := hm.lt; omega)
        replace gw := gw.gr bb1654 (by omega)
        replace hp := hp.gr bb1654 (by omega)
        have h := rb1656
        clear rb1656
        refine LL.nilS ?_
        refine CC.seq ?_
        refine CC.region ?_
        refine LL.val (R.move rfl rfl) rfl rfl rfl ?_
        have lb1685 := rb27.lt
        have lb1686 := h.lt
        (refine LL.call (R.call rfl rfl rfl) rfl rfl rfl (wparts_any t _ (by assumption) (by omega)) ?_; rintro e Wb1684 ⟨vp, rfl, op, bb1681⟩; refine ⟨_, rfl, ?_⟩; rw [if_pos hz] at op; rw [hz]; obtain ⟨ap, cp, rfl, hcp⟩ := (op.reads stEnc).form rfl)
        have zbb1681 := bb1681.size
        replace rb27 := rb27.up bb1681
        replace hm := hm.up bb1681
        replace gw := gw.up bb1681
        replace hp := hp.up bb1681
        replace h := h.up bb1681
        refine LL.val (R.move rfl rfl) rfl rfl rfl ?_
        refine LL.val (R.extract rfl rfl rfl) rfl rfl rfl ?_
        refine LL.val (R.extract rfl rfl rfl) rfl rfl rfl ?_
        refine LL.val (R.assign rfl rfl) rfl rfl rfl ?_
        refine LL.val (R.assign rfl rfl) rfl rfl rfl ?_
        refine LL.nilS ?_
        refine CC.seq ?_
        refine CC.seq ?_
        refine CC.region ?_
        refine LL.val (R.move rfl rfl) rfl rfl rfl ?_
        refine LL.val (R.neF rfl rfl rfl (by omega)) rfl rfl rfl ?_
        refine LL.nilS ?_
        refine CC.no rfl ?_
        refine CC.skip ?_
        refine EE.thenN ?_
        refine CC.seq ?_
        refine CC.region ?_
        refine LL.val (R.move rfl rfl) rfl rfl rfl ?_
        refine LL.val (R.move rfl rfl) rfl rfl rfl ?_
        (refine LL.call (R.call rfl rfl rfl) rfl rfl rfl (lead_any g _ (partsL t) ls h (op.reads stEnc) hp (by omega) (by omega)) ?_; rintro e Wb1909 ⟨rfl, ⟨v2, B2, hN, hp2⟩, tb1908⟩; clear h; have h := hN; clear hN op; refine ⟨_, rfl, ?_⟩)
        have ztb1908 := tb1908.size
        replace rb27 := rb27.kept tb1908 ⟨rb27.lt, by omega⟩
        replace hm := hm.kept tb1908 ⟨by omega, by omega⟩
        replace gw := gw.kept tb1908 ⟨by omega, by omega⟩
        replace hp := hp.kept tb1908 ⟨by omega, by omega⟩
        refine LL.nilS ?_
        refine CC.region ?_
        refine LL.val (R.move rfl rfl) rfl rfl rfl ?_
        (refine LL.call (R.call rfl rfl rfl) rfl rfl rfl (on_any g h hp2 (by rw [List.length_append]; omega)) ?_; rintro e Wb1955 ⟨rfl, hW, tb1954⟩; refine ⟨_, rfl, ?_⟩)
        have ztb1954 := tb1954.size
        replace hp2 := hp2.kept tb1954 ⟨by omega, by omega⟩
        replace rb27 := rb27.kept tb1954 ⟨rb27.lt, by omega⟩
        replace hm := hm.kept tb1954 ⟨by omega, by omega⟩
        replace gw := gw.kept tb1954 ⟨by omega, by omega⟩
        replace hp := hp.kept tb1954 ⟨by omega, by omega⟩
        refine LL.nil ?_
        refine EE.end _ rfl rfl ?_
        exact ⟨rfl, hW, gw⟩
      | false =>
        have := he' rfl
        refine X.fn Tryd.func50 rfl (n := 66) rfl rfl ?_
        refine CC.seq ?_
        refine CC.region ?_
        have lc23 := h.lt
        refine LL.box [Value.int IntKind.i64 fi, Value.int IntKind.i64 fk, strV t] rfl rfl rfl rfl rfl ?_
        intro Wc25 gc26 egc26 rc27 zc28 bc24
        replace hm := hm.up bc24
        replace gw := gw.up bc24
        replace hp := hp.up bc24
        replace h := h.up bc24
        refine LL.nilS ?_
        refine CC.seq ?_
        refine CC.seq ?_
        refine CC.region ?_
        refine LL.val (R.move rfl rfl) rfl rfl rfl ?_
        refine LL.val (R.nil rfl rfl) rfl rfl rfl ?_
        refine LL.val (R.field rfl rfl (I.fld rfl)) rfl rfl rfl ?_
        refine LL.val (R.load rfl rfl (I.ld1 rfl (RowL.cell h rfl))) rfl rfl rfl ?_
        refine LL.val (R.len rfl rfl rfl rfl) rfl rfl rfl ?_
        refine LL.val (R.eqF rfl rfl rfl (by omega)) rfl rfl rfl ?_
        refine LL.val (R.move rfl rfl) rfl rfl rfl ?_
        refine LL.skip rfl rfl ?_
        refine LL.skip rfl rfl ?_
        refine LL.skip rfl rfl ?_
        refine LL.skip rfl rfl ?_
        refine LL.skip rfl rfl ?_
        refine LL.val (R.pick rfl rfl rfl) rfl rfl rfl ?_
        refine LL.nilS ?_
        refine CC.no rfl ?_
        refine CC.skip ?_
        refine EE.thenN ?_
        refine CC.seq ?_
        refine CC.region ?_
        refine LL.val (R.move rfl rfl) rfl rfl rfl ?_
        refine LL.val (R.nil rfl rfl) rfl rfl rfl ?_
        refine LL.val (R.field rfl rfl (I.fld rfl)) rfl rfl rfl ?_
        refine LL.val (R.load rfl rfl (I.ld1 rfl (RowL.cell h rfl))) rfl rfl rfl ?_
        refine LL.val (R.addNc rfl rfl rfl rfl (by omega)) rfl rfl rfl ?_
        refine LL.val (R.nil rfl rfl) rfl rfl rfl ?_
        refine LL.val (R.field rfl rfl (I.fld rfl)) rfl rfl rfl ?_
        refine LL.store rfl rfl rfl rfl h (by exact Nat.le_of_ble_eq_true rfl) rfl rfl rfl rfl ?_
        intro Wc398 rc399 bc397 zc400
        have hlbc397 := h.lt
        replace rc399 : RowL Wc398 _ 60 [Value.int IntKind.i64 0, Value.int IntKind.i64 0, strV [], Value.int IntKind.i64 0, Value.int IntKind.i64 0, Value.bool false, Value.int IntKind.i64 dir, Value.slice a n c, Value.int IntKind.i64 ↑(links + 1), Value.bool false, Value.bool true] := rc399
        clear h
        replace rc27 := rc27.gr bc397 (by have := rc27.lt; omega)
        replace hm := hm.gr bc397 (by have := hm.lt; omega)
        replace gw := gw.gr bc397 (by omega)
        replace hp := hp.gr bc397 (by omega)
        have h := rc399
        clear rc399
        refine LL.nilS ?_
        refine CC.seq ?_
        refine CC.seq ?_
        refine CC.region ?_
        refine LL.val (R.move rfl rfl) rfl rfl rfl ?_
        refine LL.val (R.nil rfl rfl) rfl rfl rfl ?_
        refine LL.val (R.field rfl rfl (I.fld rfl)) rfl rfl rfl ?_
        refine LL.val (R.load rfl rfl (I.ld1 rfl (RowL.cell h rfl))) rfl rfl rfl ?_
        refine LL.val (R.gtF rfl rfl rfl (by omega)) rfl rfl rfl ?_
        refine LL.nilS ?_
        refine CC.no rfl ?_
        refine CC.skip ?_
        refine EE.thenN ?_
        refine CC.seq ?_
        refine CC.region ?_
        refine LL.val (R.field rfl rfl (I.fld rfl)) rfl rfl rfl ?_
        refine LL.val (R.load rfl rfl (I.ld1 rfl (RowL.cell rc27 rfl))) rfl rfl rfl ?_
        refine LL.val (R.assign rfl rfl) rfl rfl rfl ?_
        refine LL.nilS ?_
        refine CC.seq ?_
        refine CC.seq ?_
        refine CC.region ?_
        refine LL.val (R.move rfl rfl) rfl rfl rfl ?_
        (refine LL.call (R.call rfl rfl rfl) rfl rfl rfl (hpre _) ?_; rintro e W' ⟨rfl, rfl⟩; refine ⟨_, rfl, ?_⟩)
        refine LL.nilS ?_
        refine CC.yes rfl ?_
        refine CC.region ?_
        refine LL.val (R.move rfl rfl) rfl rfl rfl ?_
        refine LL.val (R.nil rfl rfl) rfl rfl rfl ?_
        refine LL.val (R.field rfl rfl (I.fld rfl)) rfl rfl rfl ?_
        refine LL.store rfl rfl rfl rfl h (by exact Nat.le_of_ble_eq_true rfl) rfl rfl rfl rfl ?_
        intro Wc701 rc702 bc700 zc703
        have hlbc700 := h.lt
        replace rc702 : RowL Wc701 _ 60 [Value.int IntKind.i64 0, Value.int IntKind.i64 0, strV [], Value.int IntKind.i64 0, Value.int IntKind.i64 0, Value.bool false, Value.int IntKind.i64 1, Value.slice a n c, Value.int IntKind.i64 ↑(links + 1), Value.bool false, Value.bool true] := rc702
        clear h
        replace rc27 := rc27.gr bc700 (by have := rc27.lt; omega)
        replace hm := hm.gr bc700 (by have := hm.lt; omega)
        replace gw := gw.gr bc700 (by omega)
        replace hp := hp.gr bc700 (by omega)
        have h := rc702
        clear rc702
        refine LL.nilS ?_
        refine CC.seq ?_
        refine CC.region ?_
        refine LL.val (R.move rfl rfl) rfl rfl rfl ?_
        have lc731 := rc27.lt
        have lc732 := h.lt
        (refine LL.call (R.call rfl rfl rfl) rfl rfl rfl (wparts_any t _ (by assumption) (by omega)) ?_; rintro e Wc730 ⟨vp, rfl, op, bc727⟩; refine ⟨_, rfl, ?_⟩; rw [if_pos hz] at op; rw [hz]; obtain ⟨ap, cp, rfl, hcp⟩ := (op.reads stEnc).form rfl)
        have zbc727 := bc727.size
        replace rc27 := rc27.up bc727
        replace hm := hm.up bc727
        replace gw := gw.up bc727
        replace hp := hp.up bc727
        replace h := h.up bc727
        refine LL.val (R.move rfl rfl) rfl rfl rfl ?_
        refine LL.val (R.extract rfl rfl rfl) rfl rfl rfl ?_
        refine LL.val (R.extract rfl rfl rfl) rfl rfl rfl ?_
        refine LL.val (R.assign rfl rfl) rfl rfl rfl ?_
        refine LL.val (R.assign rfl rfl) rfl rfl rfl ?_
        refine LL.nilS ?_
        refine CC.seq ?_
        refine CC.seq ?_
        refine CC.region ?_
        refine LL.val (R.move rfl rfl) rfl rfl rfl ?_
        refine LL.val (R.neF rfl rfl rfl (by omega)) rfl rfl rfl ?_
        refine LL.nilS ?_
        refine CC.no rfl ?_
        refine CC.skip ?_
        refine EE.thenN ?_
        refine CC.seq ?_
        refine CC.region ?_
        refine LL.val (R.move rfl rfl) rfl rfl rfl ?_
        refine LL.val (R.move rfl rfl) rfl rfl rfl ?_
        (refine LL.call (R.call rfl rfl rfl) rfl rfl rfl (lead_any g _ (partsL t) ls h (op.reads stEnc) hp (by omega) (by omega)) ?_; rintro e Wc955 ⟨rfl, ⟨v2, B2, hN, hp2⟩, tc954⟩; clear h; have h := hN; clear hN op; refine ⟨_, rfl, ?_⟩)
        have ztc954 := tc954.size
        replace rc27 := rc27.kept tc954 ⟨rc27.lt, by omega⟩
        replace hm := hm.kept tc954 ⟨by omega, by omega⟩
        replace gw := gw.kept tc954 ⟨by omega, by omega⟩
        replace hp := hp.kept tc954 ⟨by omega, by omega⟩
        refine LL.nilS ?_
        refine CC.region ?_
        refine LL.val (R.move rfl rfl) rfl rfl rfl ?_
        (refine LL.call (R.call rfl rfl rfl) rfl rfl rfl (on_any g h hp2 (by rw [List.length_append]; omega)) ?_; rintro e Wc1001 ⟨rfl, hW, tc1000⟩; refine ⟨_, rfl, ?_⟩)
        have ztc1000 := tc1000.size
        replace hp2 := hp2.kept tc1000 ⟨by omega, by omega⟩
        replace rc27 := rc27.kept tc1000 ⟨rc27.lt, by omega⟩
        replace hm := hm.kept tc1000 ⟨by omega, by omega⟩
        replace gw := gw.kept tc1000 ⟨by omega, by omega⟩
        replace hp := hp.kept tc1000 ⟨by omega, by omega⟩
        refine LL.nil ?_
        refine EE.end _ rfl rfl ?_
        exact ⟨rfl, hW, gw⟩
    · rw [if_neg hz]
      obtain ⟨e0, he0⟩ : ∃ e0, pathN t = e0 := ⟨_, rfl⟩
      have hz' : (e0 : Int) ≠ 0 := by rw [← he0]; omega
      have hpre := fun X => prefix_any t X
      rw [decide_eq_true hh] at hpre
      cases fol with
      | true =>
        refine X.fn Tryd.func50 rfl (n := 66) rfl rfl ?_
        refine CC.seq ?_
        refine CC.region ?_
        have ld16 := h.lt
        refine LL.box [Value.int IntKind.i64 fi, Value.int IntKind.i64 fk, strV t] rfl rfl rfl rfl rfl ?_
        intro Wd18 gd19 egd19 rd20 zd21 bd17
        replace hm := hm.up bd17
        replace gw := gw.up bd17
        replace hp := hp.up bd17
        replace h := h.up bd17
        refine LL.nilS ?_
        refine CC.seq ?_
        refine CC.seq ?_
        refine CC.region ?_
        refine LL.val (R.move rfl rfl) rfl rfl rfl ?_
        refine LL.val (R.nil rfl rfl) rfl rfl rfl ?_
        refine LL.val (R.field rfl rfl (I.fld rfl)) rfl rfl rfl ?_
        refine LL.val (R.load rfl rfl (I.ld1 rfl (RowL.cell h rfl))) rfl rfl rfl ?_
        refine LL.val (R.len rfl rfl rfl rfl) rfl rfl rfl ?_
        refine LL.vsplit (fun h => R.eqT rfl rfl rfl h) (fun h => R.eqF rfl rfl rfl h) rfl rfl rfl (fun cd118 => ?_) (fun cd118 => ?_)
        refine LL.val (R.move rfl rfl) rfl rfl rfl ?_
        refine LL.val (R.move rfl rfl) rfl rfl rfl ?_
        refine LL.val (R.nil rfl rfl) rfl rfl rfl ?_
        refine LL.val (R.field rfl rfl (I.fld rfl)) rfl rfl rfl ?_
        refine LL.val (R.load rfl rfl (I.ld1 rfl (RowL.cell h rfl))) rfl rfl rfl ?_
        refine LL.val (R.not rfl rfl) rfl rfl rfl ?_
        refine LL.val (R.pick rfl rfl rfl) rfl rfl rfl ?_
        refine LL.nilS ?_
        refine CC.no rfl ?_
        refine CC.skip ?_
        refine EE.thenN ?_
        refine CC.seq ?_
        refine CC.region ?_
        refine LL.val (R.move rfl rfl) rfl rfl rfl ?_
        refine LL.val (R.nil rfl rfl) rfl rfl rfl ?_
        refine LL.val (R.field rfl rfl (I.fld rfl)) rfl rfl rfl ?_
        refine LL.val (R.load rfl rfl (I.ld1 rfl (RowL.cell h rfl))) rfl rfl rfl ?_
        refine LL.val (R.addNc rfl rfl rfl rfl (by omega)) rfl rfl rfl ?_
        refine LL.val (R.nil rfl rfl) rfl rfl rfl ?_
        refine LL.val (R.field rfl rfl (I.fld rfl)) rfl rfl rfl ?_
        refine LL.store rfl rfl rfl rfl h (by exact Nat.le_of_ble_eq_true rfl) rfl rfl rfl rfl ?_
        intro Wd360 rd361 bd359 zd362
        have hlbd359 := h.lt
        replace rd361 : RowL Wd360 _ 60 [Value.int IntKind.i64 0, Value.int IntKind.i64 0, strV [], Value.int IntKind.i64 0, Value.int IntKind.i64 0, Value.bool false, Value.int IntKind.i64 dir, Value.slice a n c, Value.int IntKind.i64 ↑(links + 1), Value.bool true, Value.bool true] := rd361
        clear h
        replace rd20 := rd20.gr bd359 (by have := rd20.lt; omega)
        replace hm := hm.gr bd359 (by have := hm.lt; omega)
        replace gw := gw.gr bd359 (by omega)
        replace hp := hp.gr bd359 (by omega)
        have h := rd361
        clear rd361
        refine LL.nilS ?_
        refine CC.seq ?_
        refine CC.seq ?_
        refine CC.region ?_
        refine LL.val (R.move rfl rfl) rfl rfl rfl ?_
        refine LL.val (R.nil rfl rfl) rfl rfl rfl ?_
        refine LL.val (R.field rfl rfl (I.fld rfl)) rfl rfl rfl ?_
        refine LL.val (R.load rfl rfl (I.ld1 rfl (RowL.cell h rfl))) rfl rfl rfl ?_
        refine LL.val (R.gtF rfl rfl rfl (by omega)) rfl rfl rfl ?_
        refine LL.nilS ?_
        refine CC.no rfl ?_
        refine CC.skip ?_
        refine EE.thenN ?_
        refine CC.seq ?_
        refine CC.region ?_
        refine LL.val (R.field rfl rfl (I.fld rfl)) rfl rfl rfl ?_
        refine LL.val (R.load rfl rfl (I.ld1 rfl (RowL.cell rd20 rfl))) rfl rfl rfl ?_
        refine LL.val (R.assign rfl rfl) rfl rfl rfl ?_
        refine LL.nilS ?_
        refine CC.seq ?_
        refine CC.seq ?_
        refine CC.region ?_
        refine LL.val (R.move rfl rfl) rfl rfl rfl ?_
        (refine LL.call (R.call rfl rfl rfl) rfl rfl rfl (hpre _) ?_; rintro e W' ⟨rfl, rfl⟩; refine ⟨_, rfl, ?_⟩)
        refine LL.nilS ?_
        refine CC.yes rfl ?_
        refine CC.region ?_
        refine LL.val (R.move rfl rfl) rfl rfl rfl ?_
        refine LL.val (R.nil rfl rfl) rfl rfl rfl ?_
        refine LL.val (R.field rfl rfl (I.fld rfl)) rfl rfl rfl ?_
        refine LL.store rfl rfl rfl rfl h (by exact Nat.le_of_ble_eq_true rfl) rfl rfl rfl rfl ?_
        intro Wd572 rd573 bd571 zd574
        have hlbd571 := h.lt
        replace rd573 : RowL Wd572 _ 60 [Value.int IntKind.i64 0, Value.int IntKind.i64 0, strV [], Value.int IntKind.i64 0, Value.int IntKind.i64 0, Value.bool false, Value.int IntKind.i64 1, Value.slice a n c, Value.int IntKind.i64 ↑(links + 1), Value.bool true, Value.bool true] := rd573
        clear h
        replace rd20 := rd20.gr bd571 (by have := rd20.lt; omega)
        replace hm := hm.gr bd571 (by have := hm.lt; omega)
        replace gw := gw.gr bd571 (by omega)
        replace hp := hp.gr bd571 (by omega)
        have h := rd573
        clear rd573
        refine LL.nilS ?_
        refine CC.seq ?_
        refine CC.region ?_
        refine LL.val (R.move rfl rfl) rfl rfl rfl ?_
        have ld595 := rd20.lt
        have ld596 := h.lt
        (refine LL.call (R.call rfl rfl rfl) rfl rfl rfl (wparts_any t _ (by assumption) (by omega)) ?_; rintro e Wd594 ⟨vp, rfl, op, bd591⟩; refine ⟨_, rfl, ?_⟩; rw [if_neg hz] at op; rw [he0]; obtain ⟨ap, cp, rfl, hcp⟩ := (op.reads stEnc).form rfl)
        have zbd591 := bd591.size
        replace rd20 := rd20.up bd591
        replace hm := hm.up bd591
        replace gw := gw.up bd591
        replace hp := hp.up bd591
        replace h := h.up bd591
        refine LL.val (R.move rfl rfl) rfl rfl rfl ?_
        refine LL.val (R.extract rfl rfl rfl) rfl rfl rfl ?_
        refine LL.val (R.extract rfl rfl rfl) rfl rfl rfl ?_
        refine LL.val (R.assign rfl rfl) rfl rfl rfl ?_
        refine LL.val (R.assign rfl rfl) rfl rfl rfl ?_
        refine LL.nilS ?_
        refine CC.seq ?_
        refine CC.seq ?_
        refine CC.region ?_
        refine LL.val (R.move rfl rfl) rfl rfl rfl ?_
        refine LL.val (R.neT rfl rfl rfl (by omega)) rfl rfl rfl ?_
        refine LL.nilS ?_
        refine CC.yes rfl ?_
        refine CC.seq ?_
        refine CC.region ?_
        refine LL.val (R.move rfl rfl) rfl rfl rfl ?_
        refine LL.val (R.move rfl rfl) rfl rfl rfl ?_
        refine LL.val (R.buildV rfl rfl (v := .agg #[Value.int IntKind.i64 ↑e0, Value.int IntKind.i64 0, Value.string { data := #[] }, Value.int IntKind.i64 0, Value.int IntKind.i64 0]) (fun _ => by kernel_rfl)) rfl rfl rfl ?_
        (refine LL.call (R.call rfl rfl rfl) rfl rfl rfl (end_any g (e0, 0, [], 0, 0) h) ?_; rintro e Wd772 ⟨rfl, hN, td771⟩; clear h; have h := hN; clear hN; refine ⟨_, rfl, ?_⟩)
        have ztd771 := td771.size
        replace rd20 := rd20.kept td771 ⟨rd20.lt, by omega⟩
        replace hm := hm.kept td771 ⟨by omega, by omega⟩
        replace gw := gw.kept td771 ⟨by omega, by omega⟩
        replace hp := hp.kept td771 ⟨by omega, by omega⟩
        refine LL.nilS ?_
        refine CC.ret ?_
        refine EE.thenR ?_
        refine EE.ret _ rfl rfl ?_
        exact ⟨rfl, WkAt.fin h hp (by omega) _ _ _ rfl, gw⟩
        refine LL.val (R.move rfl rfl) rfl rfl rfl ?_
        refine LL.skip rfl rfl ?_
        refine LL.skip rfl rfl ?_
        refine LL.skip rfl rfl ?_
        refine LL.skip rfl rfl ?_
        refine LL.skip rfl rfl ?_
        refine LL.val (R.pick rfl rfl rfl) rfl rfl rfl ?_
        refine LL.nilS ?_
        refine CC.no rfl ?_
        refine CC.skip ?_
        refine EE.thenN ?_
        refine CC.seq ?_
        refine CC.region ?_
        refine LL.val (R.move rfl rfl) rfl rfl rfl ?_
        refine LL.val (R.nil rfl rfl) rfl rfl rfl ?_
        refine LL.val (R.field rfl rfl (I.fld rfl)) rfl rfl rfl ?_
        refine LL.val (R.load rfl rfl (I.ld1 rfl (RowL.cell h rfl))) rfl rfl rfl ?_
        refine LL.val (R.addNc rfl rfl rfl rfl (by omega)) rfl rfl rfl ?_
        refine LL.val (R.nil rfl rfl) rfl rfl rfl ?_
        refine LL.val (R.field rfl rfl (I.fld rfl)) rfl rfl rfl ?_
        refine LL.store rfl rfl rfl rfl h (by exact Nat.le_of_ble_eq_true rfl) rfl rfl rfl rfl ?_
        intro Wd937 rd938 bd936 zd939
        have hlbd936 := h.lt
        replace rd938 : RowL Wd937 _ 60 [Value.int IntKind.i64 0, Value.int IntKind.i64 0, strV [], Value.int IntKind.i64 0, Value.int IntKind.i64 0, Value.bool false, Value.int IntKind.i64 dir, Value.slice a n c, Value.int IntKind.i64 ↑(links + 1), Value.bool true, Value.bool true] := rd938
        clear h
        replace rd20 := rd20.gr bd936 (by have := rd20.lt; omega)
        replace hm := hm.gr bd936 (by have := hm.lt; omega)
        replace gw := gw.gr bd936 (by omega)
        replace hp := hp.gr bd936 (by omega)
        have h := rd938
        clear rd938
        refine LL.nilS ?_
        refine CC.seq ?_
        refine CC.seq ?_
        refine CC.region ?_
        refine LL.val (R.move rfl rfl) rfl rfl rfl ?_
        refine LL.val (R.nil rfl rfl) rfl rfl rfl ?_
        refine LL.val (R.field rfl rfl (I.fld rfl)) rfl rfl rfl ?_
        refine LL.val (R.load rfl rfl (I.ld1 rfl (RowL.cell h rfl))) rfl rfl rfl ?_
        refine LL.val (R.gtF rfl rfl rfl (by omega)) rfl rfl rfl ?_
        refine LL.nilS ?_
        refine CC.no rfl ?_
        refine CC.skip ?_
        refine EE.thenN ?_
        refine CC.seq ?_
        refine CC.region ?_
        refine LL.val (R.field rfl rfl (I.fld rfl)) rfl rfl rfl ?_
        refine LL.val (R.load rfl rfl (I.ld1 rfl (RowL.cell rd20 rfl))) rfl rfl rfl ?_
        refine LL.val (R.assign rfl rfl) rfl rfl rfl ?_
        refine LL.nilS ?_
        refine CC.seq ?_
        refine CC.seq ?_
        refine CC.region ?_
        refine LL.val (R.move rfl rfl) rfl rfl rfl ?_
        (refine LL.call (R.call rfl rfl rfl) rfl rfl rfl (hpre _) ?_; rintro e W' ⟨rfl, rfl⟩; refine ⟨_, rfl, ?_⟩)
        refine LL.nilS ?_
        refine CC.yes rfl ?_
        refine CC.region ?_
        refine LL.val (R.move rfl rfl) rfl rfl rfl ?_
        refine LL.val (R.nil rfl rfl) rfl rfl rfl ?_
        refine LL.val (R.field rfl rfl (I.fld rfl)) rfl rfl rfl ?_
        refine LL.store rfl rfl rfl rfl h (by exact Nat.le_of_ble_eq_true rfl) rfl rfl rfl rfl ?_
        intro Wd1149 rd1150 bd1148 zd1151
        have hlbd1148 := h.lt
        replace rd1150 : RowL Wd1149 _ 60 [Value.int IntKind.i64 0, Value.int IntKind.i64 0, strV [], Value.int IntKind.i64 0, Value.int IntKind.i64 0, Value.bool false, Value.int IntKind.i64 1, Value.slice a n c, Value.int IntKind.i64 ↑(links + 1), Value.bool true, Value.bool true] := rd1150
        clear h
        replace rd20 := rd20.gr bd1148 (by have := rd20.lt; omega)
        replace hm := hm.gr bd1148 (by have := hm.lt; omega)
        replace gw := gw.gr bd1148 (by omega)
        replace hp := hp.gr bd1148 (by omega)
        have h := rd1150
        clear rd1150
        refine LL.nilS ?_
        refine CC.seq ?_
        refine CC.region ?_
        refine LL.val (R.move rfl rfl) rfl rfl rfl ?_
        have ld1172 := rd20.lt
        have ld1173 := h.lt
        (refine LL.call (R.call rfl rfl rfl) rfl rfl rfl (wparts_any t _ (by assumption) (by omega)) ?_; rintro e Wd1171 ⟨vp, rfl, op, bd1168⟩; refine ⟨_, rfl, ?_⟩; rw [if_neg hz] at op; rw [he0]; obtain ⟨ap, cp, rfl, hcp⟩ := (op.reads stEnc).form rfl)
        have zbd1168 := bd1168.size
        replace rd20 := rd20.up bd1168
        replace hm := hm.up bd1168
        replace gw := gw.up bd1168
        replace hp := hp.up bd1168
        replace h := h.up bd1168
        refine LL.val (R.move rfl rfl) rfl rfl rfl ?_
        refine LL.val (R.extract rfl rfl rfl) rfl rfl rfl ?_
        refine LL.val (R.extract rfl rfl rfl) rfl rfl rfl ?_
        refine LL.val (R.assign rfl rfl) rfl rfl rfl ?_
        refine LL.val (R.assign rfl rfl) rfl rfl rfl ?_
        refine LL.nilS ?_
        refine CC.seq ?_
        refine CC.seq ?_
        refine CC.region ?_
        refine LL.val (R.move rfl rfl) rfl rfl rfl ?_
        refine LL.val (R.neT rfl rfl rfl (by omega)) rfl rfl rfl ?_
        refine LL.nilS ?_
        refine CC.yes rfl ?_
        refine CC.seq ?_
        refine CC.region ?_
        refine LL.val (R.move rfl rfl) rfl rfl rfl ?_
        refine LL.val (R.move rfl rfl) rfl rfl rfl ?_
        refine LL.val (R.buildV rfl rfl (v := .agg #[Value.int IntKind.i64 ↑e0, Value.int IntKind.i64 0, Value.string { data := #[] }, Value.int IntKind.i64 0, Value.int IntKind.i64 0]) (fun _ => by kernel_rfl)) rfl rfl rfl ?_
        (refine LL.call (R.call rfl rfl rfl) rfl rfl rfl (end_any g (e0, 0, [], 0, 0) h) ?_; rintro e Wd1349 ⟨rfl, hN, td1348⟩; clear h; have h := hN; clear hN; refine ⟨_, rfl, ?_⟩)
        have ztd1348 := td1348.size
        replace rd20 := rd20.kept td1348 ⟨rd20.lt, by omega⟩
        replace hm := hm.kept td1348 ⟨by omega, by omega⟩
        replace gw := gw.kept td1348 ⟨by omega, by omega⟩
        replace hp := hp.kept td1348 ⟨by omega, by omega⟩
        refine LL.nilS ?_
        refine CC.ret ?_
        refine EE.thenR ?_
        refine EE.ret _ rfl rfl ?_
        exact ⟨rfl, WkAt.fin h hp (by omega) _ _ _ rfl, gw⟩
      | false =>
        have := he' rfl
        refine X.fn Tryd.func50 rfl (n := 66) rfl rfl ?_
        refine CC.seq ?_
        refine CC.region ?_
        have le16 := h.lt
        refine LL.box [Value.int IntKind.i64 fi, Value.int IntKind.i64 fk, strV t] rfl rfl rfl rfl rfl ?_
        intro We18 ge19 ege19 re20 ze21 be17
        replace hm := hm.up be17
        replace gw := gw.up be17
        replace hp := hp.up be17
        replace h := h.up be17
        refine LL.nilS ?_
        refine CC.seq ?_
        refine CC.seq ?_
        refine CC.region ?_
        refine LL.val (R.move rfl rfl) rfl rfl rfl ?_
        refine LL.val (R.nil rfl rfl) rfl rfl rfl ?_
        refine LL.val (R.field rfl rfl (I.fld rfl)) rfl rfl rfl ?_
        refine LL.val (R.load rfl rfl (I.ld1 rfl (RowL.cell h rfl))) rfl rfl rfl ?_
        refine LL.val (R.len rfl rfl rfl rfl) rfl rfl rfl ?_
        refine LL.val (R.eqF rfl rfl rfl (by omega)) rfl rfl rfl ?_
        refine LL.val (R.move rfl rfl) rfl rfl rfl ?_
        refine LL.skip rfl rfl ?_
        refine LL.skip rfl rfl ?_
        refine LL.skip rfl rfl ?_
        refine LL.skip rfl rfl ?_
        refine LL.skip rfl rfl ?_
        refine LL.val (R.pick rfl rfl rfl) rfl rfl rfl ?_
        refine LL.nilS ?_
        refine CC.no rfl ?_
        refine CC.skip ?_
        refine EE.thenN ?_
        refine CC.seq ?_
        refine CC.region ?_
        refine LL.val (R.move rfl rfl) rfl rfl rfl ?_
        refine LL.val (R.nil rfl rfl) rfl rfl rfl ?_
        refine LL.val (R.field rfl rfl (I.fld rfl)) rfl rfl rfl ?_
        refine LL.val (R.load rfl rfl (I.ld1 rfl (RowL.cell h rfl))) rfl rfl rfl ?_
        refine LL.val (R.addNc rfl rfl rfl rfl (by omega)) rfl rfl rfl ?_
        refine LL.val (R.nil rfl rfl) rfl rfl rfl ?_
        refine LL.val (R.field rfl rfl (I.fld rfl)) rfl rfl rfl ?_
        refine LL.store rfl rfl rfl rfl h (by exact Nat.le_of_ble_eq_true rfl) rfl rfl rfl rfl ?_
        intro We279 re280 be278 ze281
        have hlbe278 := h.lt
        replace re280 : RowL We279 _ 60 [Value.int IntKind.i64 0, Value.int IntKind.i64 0, strV [], Value.int IntKind.i64 0, Value.int IntKind.i64 0, Value.bool false, Value.int IntKind.i64 dir, Value.slice a n c, Value.int IntKind.i64 ↑(links + 1), Value.bool false, Value.bool true] := re280
        clear h
        replace re20 := re20.gr be278 (by have := re20.lt; omega)
        replace hm := hm.gr be278 (by have := hm.lt; omega)
        replace gw := gw.gr be278 (by omega)
        replace hp := hp.gr be278 (by omega)
        have h := re280
        clear re280
        refine LL.nilS ?_
        refine CC.seq ?_
        refine CC.seq ?_
        refine CC.region ?_
        refine LL.val (R.move rfl rfl) rfl rfl rfl ?_
        refine LL.val (R.nil rfl rfl) rfl rfl rfl ?_
        refine LL.val (R.field rfl rfl (I.fld rfl)) rfl rfl rfl ?_
        refine LL.val (R.load rfl rfl (I.ld1 rfl (RowL.cell h rfl))) rfl rfl rfl ?_
        refine LL.val (R.gtF rfl rfl rfl (by omega)) rfl rfl rfl ?_
        refine LL.nilS ?_
        refine CC.no rfl ?_
        refine CC.skip ?_
        refine EE.thenN ?_
        refine CC.seq ?_
        refine CC.region ?_
        refine LL.val (R.field rfl rfl (I.fld rfl)) rfl rfl rfl ?_
        refine LL.val (R.load rfl rfl (I.ld1 rfl (RowL.cell re20 rfl))) rfl rfl rfl ?_
        refine LL.val (R.assign rfl rfl) rfl rfl rfl ?_
        refine LL.nilS ?_
        refine CC.seq ?_
        refine CC.seq ?_
        refine CC.region ?_
        refine LL.val (R.move rfl rfl) rfl rfl rfl ?_
        (refine LL.call (R.call rfl rfl rfl) rfl rfl rfl (hpre _) ?_; rintro e W' ⟨rfl, rfl⟩; refine ⟨_, rfl, ?_⟩)
        refine LL.nilS ?_
        refine CC.yes rfl ?_
        refine CC.region ?_
        refine LL.val (R.move rfl rfl) rfl rfl rfl ?_
        refine LL.val (R.nil rfl rfl) rfl rfl rfl ?_
        refine LL.val (R.field rfl rfl (I.fld rfl)) rfl rfl rfl ?_
        refine LL.store rfl rfl rfl rfl h (by exact Nat.le_of_ble_eq_true rfl) rfl rfl rfl rfl ?_
        intro We491 re492 be490 ze493
        have hlbe490 := h.lt
        replace re492 : RowL We491 _ 60 [Value.int IntKind.i64 0, Value.int IntKind.i64 0, strV [], Value.int IntKind.i64 0, Value.int IntKind.i64 0, Value.bool false, Value.int IntKind.i64 1, Value.slice a n c, Value.int IntKind.i64 ↑(links + 1), Value.bool false, Value.bool true] := re492
        clear h
        replace re20 := re20.gr be490 (by have := re20.lt; omega)
        replace hm := hm.gr be490 (by have := hm.lt; omega)
        replace gw := gw.gr be490 (by omega)
        replace hp := hp.gr be490 (by omega)
        have h := re492
        clear re492
        refine LL.nilS ?_
        refine CC.seq ?_
        refine CC.region ?_
        refine LL.val (R.move rfl rfl) rfl rfl rfl ?_
        have le514 := re20.lt
        have le515 := h.lt
        (refine LL.call (R.call rfl rfl rfl) rfl rfl rfl (wparts_any t _ (by assumption) (by omega)) ?_; rintro e We513 ⟨vp, rfl, op, be510⟩; refine ⟨_, rfl, ?_⟩; rw [if_neg hz] at op; rw [he0]; obtain ⟨ap, cp, rfl, hcp⟩ := (op.reads stEnc).form rfl)
        have zbe510 := be510.size
        replace re20 := re20.up be510
        replace hm := hm.up be510
        replace gw := gw.up be510
        replace hp := hp.up be510
        replace h := h.up be510
        refine LL.val (R.move rfl rfl) rfl rfl rfl ?_
        refine LL.val (R.extract rfl rfl rfl) rfl rfl rfl ?_
        refine LL.val (R.extract rfl rfl rfl) rfl rfl rfl ?_
        refine LL.val (R.assign rfl rfl) rfl rfl rfl ?_
        refine LL.val (R.assign rfl rfl) rfl rfl rfl ?_
        refine LL.nilS ?_
        refine CC.seq ?_
        refine CC.seq ?_
        refine CC.region ?_
        refine LL.val (R.move rfl rfl) rfl rfl rfl ?_
        refine LL.val (R.neT rfl rfl rfl (by omega)) rfl rfl rfl ?_
        refine LL.nilS ?_
        refine CC.yes rfl ?_
        refine CC.seq ?_
        refine CC.region ?_
        refine LL.val (R.move rfl rfl) rfl rfl rfl ?_
        refine LL.val (R.move rfl rfl) rfl rfl rfl ?_
        refine LL.val (R.buildV rfl rfl (v := .agg #[Value.int IntKind.i64 ↑e0, Value.int IntKind.i64 0, Value.string { data := #[] }, Value.int IntKind.i64 0, Value.int IntKind.i64 0]) (fun _ => by kernel_rfl)) rfl rfl rfl ?_
        (refine LL.call (R.call rfl rfl rfl) rfl rfl rfl (end_any g (e0, 0, [], 0, 0) h) ?_; rintro e We691 ⟨rfl, hN, te690⟩; clear h; have h := hN; clear hN; refine ⟨_, rfl, ?_⟩)
        have zte690 := te690.size
        replace re20 := re20.kept te690 ⟨re20.lt, by omega⟩
        replace hm := hm.kept te690 ⟨by omega, by omega⟩
        replace gw := gw.kept te690 ⟨by omega, by omega⟩
        replace hp := hp.kept te690 ⟨by omega, by omega⟩
        refine LL.nilS ?_
        refine CC.ret ?_
        refine EE.thenR ?_
        refine EE.ret _ rfl rfl ?_
        exact ⟨rfl, WkAt.fin h hp (by omega) _ _ _ rfl, gw⟩
  case neg =>
    rw [if_neg hh, if_neg hh]
    obtain ⟨L, hL⟩ : ∃ L, (47 :: t) = L := ⟨_, rfl⟩
    have hLl : L.length ≤ 1048577 := by rw [← hL]; simp only [List.length_cons]; omega
    rw [hL]
    by_cases hz : pathN L = 0
    · rw [if_pos hz]
      have hpl := partsL_len0 hz
      have hpre := fun X => prefix_any t X
      rw [decide_eq_false hh] at hpre
      cases fol with
      | true =>
        refine X.fn Tryd.func50 rfl (n := 66) rfl rfl ?_
        refine CC.seq ?_
        refine CC.region ?_
        have lf23 := h.lt
        refine LL.box [Value.int IntKind.i64 fi, Value.int IntKind.i64 fk, strV t] rfl rfl rfl rfl rfl ?_
        intro Wf25 gf26 egf26 rf27 zf28 bf24
        replace hm := hm.up bf24
        replace gw := gw.up bf24
        replace hp := hp.up bf24
        replace h := h.up bf24
        refine LL.nilS ?_
        refine CC.seq ?_
        refine CC.seq ?_
        refine CC.region ?_
        refine LL.val (R.move rfl rfl) rfl rfl rfl ?_
        refine LL.val (R.nil rfl rfl) rfl rfl rfl ?_
        refine LL.val (R.field rfl rfl (I.fld rfl)) rfl rfl rfl ?_
        refine LL.val (R.load rfl rfl (I.ld1 rfl (RowL.cell h rfl))) rfl rfl rfl ?_
        refine LL.val (R.len rfl rfl rfl rfl) rfl rfl rfl ?_
        refine LL.vsplit (fun h => R.eqT rfl rfl rfl h) (fun h => R.eqF rfl rfl rfl h) rfl rfl rfl (fun cf167 => ?_) (fun cf167 => ?_)
        refine LL.val (R.move rfl rfl) rfl rfl rfl ?_
        refine LL.val (R.move rfl rfl) rfl rfl rfl ?_
        refine LL.val (R.nil rfl rfl) rfl rfl rfl ?_
        refine LL.val (R.field rfl rfl (I.fld rfl)) rfl rfl rfl ?_
        refine LL.val (R.load rfl rfl (I.ld1 rfl (RowL.cell h rfl))) rfl rfl rfl ?_
        refine LL.val (R.not rfl rfl) rfl rfl rfl ?_
        refine LL.val (R.pick rfl rfl rfl) rfl rfl rfl ?_
        refine LL.nilS ?_
        refine CC.no rfl ?_
        refine CC.skip ?_
        refine EE.thenN ?_
        refine CC.seq ?_
        refine CC.region ?_
        refine LL.val (R.move rfl rfl) rfl rfl rfl ?_
        refine LL.val (R.nil rfl rfl) rfl rfl rfl ?_
        refine LL.val (R.field rfl rfl (I.fld rfl)) rfl rfl rfl ?_
        refine LL.val (R.load rfl rfl (I.ld1 rfl (RowL.cell h rfl))) rfl rfl rfl ?_
        refine LL.val (R.addNc rfl rfl rfl rfl (by omega)) rfl rfl rfl ?_
        refine LL.val (R.nil rfl rfl) rfl rfl rfl ?_
        refine LL.val (R.field rfl rfl (I.fld rfl)) rfl rfl rfl ?_
        refine LL.store rfl rfl rfl rfl h (by exact Nat.le_of_ble_eq_true rfl) rfl rfl rfl rfl ?_
        intro Wf514 rf515 bf513 zf516
        have hlbf513 := h.lt
        replace rf515 : RowL Wf514 _ 60 [Value.int IntKind.i64 0, Value.int IntKind.i64 0, strV [], Value.int IntKind.i64 0, Value.int IntKind.i64 0, Value.bool false, Value.int IntKind.i64 dir, Value.slice a n c, Value.int IntKind.i64 ↑(links + 1), Value.bool true, Value.bool true] := rf515
        clear h
        replace rf27 := rf27.gr bf513 (by have := rf27.lt; omega)
        replace hm := hm.gr bf513 (by have := hm.lt; omega)
        replace gw := gw.gr bf513 (by omega)
        replace hp := hp.gr bf513 (by omega)
        have h := rf515
        clear rf515
        refine LL.nilS ?_
        refine CC.seq ?_
        refine CC.seq ?_
        refine CC.region ?_
        refine LL.val (R.move rfl rfl) rfl rfl rfl ?_
        refine LL.val (R.nil rfl rfl) rfl rfl rfl ?_
        refine LL.val (R.field rfl rfl (I.fld rfl)) rfl rfl rfl ?_
        refine LL.val (R.load rfl rfl (I.ld1 rfl (RowL.cell h rfl))) rfl rfl rfl ?_
        refine LL.val (R.gtF rfl rfl rfl (by omega)) rfl rfl rfl ?_
        refine LL.nilS ?_
        refine CC.no rfl ?_
        refine CC.skip ?_
        refine EE.thenN ?_
        refine CC.seq ?_
        refine CC.region ?_
        refine LL.val (R.field rfl rfl (I.fld rfl)) rfl rfl rfl ?_
        refine LL.val (R.load rfl rfl (I.ld1 rfl (RowL.cell rf27 rfl))) rfl rfl rfl ?_
        refine LL.val (R.assign rfl rfl) rfl rfl rfl ?_
        refine LL.nilS ?_
        refine CC.seq ?_
        refine CC.seq ?_
        refine CC.region ?_
        refine LL.val (R.move rfl rfl) rfl rfl rfl ?_
        (refine LL.call (R.call rfl rfl rfl) rfl rfl rfl (hpre _) ?_; rintro e W' ⟨rfl, rfl⟩; refine ⟨_, rfl, ?_⟩)
        refine LL.nilS ?_
        refine CC.no rfl ?_
        refine CC.region ?_
        refine LL.val (R.move rfl rfl) rfl rfl rfl ?_
        (refine LL.val (R.addS (a := [47]) (b := t) rfl rfl rfl (by simp only [List.length_cons, List.length_nil]; omega)) rfl rfl rfl ?_; rw [show ([47] : Bs) ++ t = L from hL])
        refine LL.val (R.assign rfl rfl) rfl rfl rfl ?_
        refine LL.nilS ?_
        refine CC.seq ?_
        refine CC.region ?_
        refine LL.val (R.move rfl rfl) rfl rfl rfl ?_
        have lf797 := rf27.lt
        have lf798 := h.lt
        (refine LL.call (R.call rfl rfl rfl) rfl rfl rfl (wparts_any L _ (by assumption) (by omega)) ?_; rintro e Wf796 ⟨vp, rfl, op, bf793⟩; refine ⟨_, rfl, ?_⟩; rw [if_pos hz] at op; rw [hz]; obtain ⟨ap, cp, rfl, hcp⟩ := (op.reads stEnc).form rfl)
        have zbf793 := bf793.size
        replace rf27 := rf27.up bf793
        replace hm := hm.up bf793
        replace gw := gw.up bf793
        replace hp := hp.up bf793
        replace h := h.up bf793
        refine LL.val (R.move rfl rfl) rfl rfl rfl ?_
        refine LL.val (R.extract rfl rfl rfl) rfl rfl rfl ?_
        refine LL.val (R.extract rfl rfl rfl) rfl rfl rfl ?_
        refine LL.val (R.assign rfl rfl) rfl rfl rfl ?_
        refine LL.val (R.assign rfl rfl) rfl rfl rfl ?_
        refine LL.nilS ?_
        refine CC.seq ?_
        refine CC.seq ?_
        refine CC.region ?_
        refine LL.val (R.move rfl rfl) rfl rfl rfl ?_
        refine LL.val (R.neF rfl rfl rfl (by omega)) rfl rfl rfl ?_
        refine LL.nilS ?_
        refine CC.no rfl ?_
        refine CC.skip ?_
        refine EE.thenN ?_
        refine CC.seq ?_
        refine CC.region ?_
        refine LL.val (R.move rfl rfl) rfl rfl rfl ?_
        refine LL.val (R.move rfl rfl) rfl rfl rfl ?_
        (refine LL.call (R.call rfl rfl rfl) rfl rfl rfl (lead_any g _ (partsL L) ls h (op.reads stEnc) hp (by omega) (by omega)) ?_; rintro e Wf1021 ⟨rfl, ⟨v2, B2, hN, hp2⟩, tf1020⟩; clear h; have h := hN; clear hN op; refine ⟨_, rfl, ?_⟩)
        have ztf1020 := tf1020.size
        replace rf27 := rf27.kept tf1020 ⟨rf27.lt, by omega⟩
        replace hm := hm.kept tf1020 ⟨by omega, by omega⟩
        replace gw := gw.kept tf1020 ⟨by omega, by omega⟩
        replace hp := hp.kept tf1020 ⟨by omega, by omega⟩
        refine LL.nilS ?_
        refine CC.region ?_
        refine LL.val (R.move rfl rfl) rfl rfl rfl ?_
        (refine LL.call (R.call rfl rfl rfl) rfl rfl rfl (on_any g h hp2 (by rw [List.length_append]; omega)) ?_; rintro e Wf1067 ⟨rfl, hW, tf1066⟩; refine ⟨_, rfl, ?_⟩)
        have ztf1066 := tf1066.size
        replace hp2 := hp2.kept tf1066 ⟨by omega, by omega⟩
        replace rf27 := rf27.kept tf1066 ⟨rf27.lt, by omega⟩
        replace hm := hm.kept tf1066 ⟨by omega, by omega⟩
        replace gw := gw.kept tf1066 ⟨by omega, by omega⟩
        replace hp := hp.kept tf1066 ⟨by omega, by omega⟩
        refine LL.nil ?_
        refine EE.end _ rfl rfl ?_
        exact ⟨rfl, hW, gw⟩
        refine LL.val (R.move rfl rfl) rfl rfl rfl ?_
        refine LL.skip rfl rfl ?_
        refine LL.skip rfl rfl ?_
        refine LL.skip rfl rfl ?_
        refine LL.skip rfl rfl ?_
        refine LL.skip rfl rfl ?_
        refine LL.val (R.pick rfl rfl rfl) rfl rfl rfl ?_
        refine LL.nilS ?_
        refine CC.no rfl ?_
        refine CC.skip ?_
        refine EE.thenN ?_
        refine CC.seq ?_
        refine CC.region ?_
        refine LL.val (R.move rfl rfl) rfl rfl rfl ?_
        refine LL.val (R.nil rfl rfl) rfl rfl rfl ?_
        refine LL.val (R.field rfl rfl (I.fld rfl)) rfl rfl rfl ?_
        refine LL.val (R.load rfl rfl (I.ld1 rfl (RowL.cell h rfl))) rfl rfl rfl ?_
        refine LL.val (R.addNc rfl rfl rfl rfl (by omega)) rfl rfl rfl ?_
        refine LL.val (R.nil rfl rfl) rfl rfl rfl ?_
        refine LL.val (R.field rfl rfl (I.fld rfl)) rfl rfl rfl ?_
        refine LL.store rfl rfl rfl rfl h (by exact Nat.le_of_ble_eq_true rfl) rfl rfl rfl rfl ?_
        intro Wf1302 rf1303 bf1301 zf1304
        have hlbf1301 := h.lt
        replace rf1303 : RowL Wf1302 _ 60 [Value.int IntKind.i64 0, Value.int IntKind.i64 0, strV [], Value.int IntKind.i64 0, Value.int IntKind.i64 0, Value.bool false, Value.int IntKind.i64 dir, Value.slice a n c, Value.int IntKind.i64 ↑(links + 1), Value.bool true, Value.bool true] := rf1303
        clear h
        replace rf27 := rf27.gr bf1301 (by have := rf27.lt; omega)
        replace hm := hm.gr bf1301 (by have := hm.lt; omega)
        replace gw := gw.gr bf1301 (by omega)
        replace hp := hp.gr bf1301 (by omega)
        have h := rf1303
        clear rf1303
        refine LL.nilS ?_
        refine CC.seq ?_
        refine CC.seq ?_
        refine CC.region ?_
        refine LL.val (R.move rfl rfl) rfl rfl rfl ?_
        refine LL.val (R.nil rfl rfl) rfl rfl rfl ?_
        refine LL.val (R.field rfl rfl (I.fld rfl)) rfl rfl rfl ?_
        refine LL.val (R.load rfl rfl (I.ld1 rfl (RowL.cell h rfl))) rfl rfl rfl ?_
        refine LL.val (R.gtF rfl rfl rfl (by omega)) rfl rfl rfl ?_
        refine LL.nilS ?_
        refine CC.no rfl ?_
        refine CC.skip ?_
        refine EE.thenN ?_
        refine CC.seq ?_
        refine CC.region ?_
        refine LL.val (R.field rfl rfl (I.fld rfl)) rfl rfl rfl ?_
        refine LL.val (R.load rfl rfl (I.ld1 rfl (RowL.cell rf27 rfl))) rfl rfl rfl ?_
        refine LL.val (R.assign rfl rfl) rfl rfl rfl ?_
        refine LL.nilS ?_
        refine CC.seq ?_
        refine CC.seq ?_
        refine CC.region ?_
        refine LL.val (R.move rfl rfl) rfl rfl rfl ?_
        (refine LL.call (R.call rfl rfl rfl) rfl rfl rfl (hpre _) ?_; rintro e W' ⟨rfl, rfl⟩; refine ⟨_, rfl, ?_⟩)
        refine LL.nilS ?_
        refine CC.no rfl ?_
        refine CC.region ?_
        refine LL.val (R.move rfl rfl) rfl rfl rfl ?_
        (refine LL.val (R.addS (a := [47]) (b := t) rfl rfl rfl (by simp only [List.length_cons, List.length_nil]; omega)) rfl rfl rfl ?_; rw [show ([47] : Bs) ++ t = L from hL])
        refine LL.val (R.assign rfl rfl) rfl rfl rfl ?_
        refine LL.nilS ?_
        refine CC.seq ?_
        refine CC.region ?_
        refine LL.val (R.move rfl rfl) rfl rfl rfl ?_
        have lf1585 := rf27.lt
        have lf1586 := h.lt
        (refine LL.call (R.call rfl rfl rfl) rfl rfl rfl (wparts_any L _ (by assumption) (by omega)) ?_; rintro e Wf1584 ⟨vp, rfl, op, bf1581⟩; refine ⟨_, rfl, ?_⟩; rw [if_pos hz] at op; rw [hz]; obtain ⟨ap, cp, rfl, hcp⟩ := (op.reads stEnc).form rfl)
        have zbf1581 := bf1581.size
        replace rf27 := rf27.up bf1581
        replace hm := hm.up bf1581
        replace gw := gw.up bf1581
        replace hp := hp.up bf1581
        replace h := h.up bf1581
        refine LL.val (R.move rfl rfl) rfl rfl rfl ?_
        refine LL.val (R.extract rfl rfl rfl) rfl rfl rfl ?_
        refine LL.val (R.extract rfl rfl rfl) rfl rfl rfl ?_
        refine LL.val (R.assign rfl rfl) rfl rfl rfl ?_
        refine LL.val (R.assign rfl rfl) rfl rfl rfl ?_
        refine LL.nilS ?_
        refine CC.seq ?_
        refine CC.seq ?_
        refine CC.region ?_
        refine LL.val (R.move rfl rfl) rfl rfl rfl ?_
        refine LL.val (R.neF rfl rfl rfl (by omega)) rfl rfl rfl ?_
        refine LL.nilS ?_
        refine CC.no rfl ?_
        refine CC.skip ?_
        refine EE.thenN ?_
        refine CC.seq ?_
        refine CC.region ?_
        refine LL.val (R.move rfl rfl) rfl rfl rfl ?_
        refine LL.val (R.move rfl rfl) rfl rfl rfl ?_
        (refine LL.call (R.call rfl rfl rfl) rfl rfl rfl (lead_any g _ (partsL L) ls h (op.reads stEnc) hp (by omega) (by omega)) ?_; rintro e Wf1809 ⟨rfl, ⟨v2, B2, hN, hp2⟩, tf1808⟩; clear h; have h := hN; clear hN op; refine ⟨_, rfl, ?_⟩)
        have ztf1808 := tf1808.size
        replace rf27 := rf27.kept tf1808 ⟨rf27.lt, by omega⟩
        replace hm := hm.kept tf1808 ⟨by omega, by omega⟩
        replace gw := gw.kept tf1808 ⟨by omega, by omega⟩
        replace hp := hp.kept tf1808 ⟨by omega, by omega⟩
        refine LL.nilS ?_
        refine CC.region ?_
        refine LL.val (R.move rfl rfl) rfl rfl rfl ?_
        (refine LL.call (R.call rfl rfl rfl) rfl rfl rfl (on_any g h hp2 (by rw [List.length_append]; omega)) ?_; rintro e Wf1855 ⟨rfl, hW, tf1854⟩; refine ⟨_, rfl, ?_⟩)
        have ztf1854 := tf1854.size
        replace hp2 := hp2.kept tf1854 ⟨by omega, by omega⟩
        replace rf27 := rf27.kept tf1854 ⟨rf27.lt, by omega⟩
        replace hm := hm.kept tf1854 ⟨by omega, by omega⟩
        replace gw := gw.kept tf1854 ⟨by omega, by omega⟩
        replace hp := hp.kept tf1854 ⟨by omega, by omega⟩
        refine LL.nil ?_
        refine EE.end _ rfl rfl ?_
        exact ⟨rfl, hW, gw⟩
      | false =>
        have := he' rfl
        refine X.fn Tryd.func50 rfl (n := 66) rfl rfl ?_
        refine CC.seq ?_
        refine CC.region ?_
        have lg23 := h.lt
        refine LL.box [Value.int IntKind.i64 fi, Value.int IntKind.i64 fk, strV t] rfl rfl rfl rfl rfl ?_
        intro Wg25 gg26 egg26 rg27 zg28 bg24
        replace hm := hm.up bg24
        replace gw := gw.up bg24
        replace hp := hp.up bg24
        replace h := h.up bg24
        refine LL.nilS ?_
        refine CC.seq ?_
        refine CC.seq ?_
        refine CC.region ?_
        refine LL.val (R.move rfl rfl) rfl rfl rfl ?_
        refine LL.val (R.nil rfl rfl) rfl rfl rfl ?_
        refine LL.val (R.field rfl rfl (I.fld rfl)) rfl rfl rfl ?_
        refine LL.val (R.load rfl rfl (I.ld1 rfl (RowL.cell h rfl))) rfl rfl rfl ?_
        refine LL.val (R.len rfl rfl rfl rfl) rfl rfl rfl ?_
        refine LL.val (R.eqF rfl rfl rfl (by omega)) rfl rfl rfl ?_
        refine LL.val (R.move rfl rfl) rfl rfl rfl ?_
        refine LL.skip rfl rfl ?_
        refine LL.skip rfl rfl ?_
        refine LL.skip rfl rfl ?_
        refine LL.skip rfl rfl ?_
        refine LL.skip rfl rfl ?_
        refine LL.val (R.pick rfl rfl rfl) rfl rfl rfl ?_
        refine LL.nilS ?_
        refine CC.no rfl ?_
        refine CC.skip ?_
        refine EE.thenN ?_
        refine CC.seq ?_
        refine CC.region ?_
        refine LL.val (R.move rfl rfl) rfl rfl rfl ?_
        refine LL.val (R.nil rfl rfl) rfl rfl rfl ?_
        refine LL.val (R.field rfl rfl (I.fld rfl)) rfl rfl rfl ?_
        refine LL.val (R.load rfl rfl (I.ld1 rfl (RowL.cell h rfl))) rfl rfl rfl ?_
        refine LL.val (R.addNc rfl rfl rfl rfl (by omega)) rfl rfl rfl ?_
        refine LL.val (R.nil rfl rfl) rfl rfl rfl ?_
        refine LL.val (R.field rfl rfl (I.fld rfl)) rfl rfl rfl ?_
        refine LL.store rfl rfl rfl rfl h (by exact Nat.le_of_ble_eq_true rfl) rfl rfl rfl rfl ?_
        intro Wg398 rg399 bg397 zg400
        have hlbg397 := h.lt
        replace rg399 : RowL Wg398 _ 60 [Value.int IntKind.i64 0, Value.int IntKind.i64 0, strV [], Value.int IntKind.i64 0, Value.int IntKind.i64 0, Value.bool false, Value.int IntKind.i64 dir, Value.slice a n c, Value.int IntKind.i64 ↑(links + 1), Value.bool false, Value.bool true] := rg399
        clear h
        replace rg27 := rg27.gr bg397 (by have := rg27.lt; omega)
        replace hm := hm.gr bg397 (by have := hm.lt; omega)
        replace gw := gw.gr bg397 (by omega)
        replace hp := hp.gr bg397 (by omega)
        have h := rg399
        clear rg399
        refine LL.nilS ?_
        refine CC.seq ?_
        refine CC.seq ?_
        refine CC.region ?_
        refine LL.val (R.move rfl rfl) rfl rfl rfl ?_
        refine LL.val (R.nil rfl rfl) rfl rfl rfl ?_
        refine LL.val (R.field rfl rfl (I.fld rfl)) rfl rfl rfl ?_
        refine LL.val (R.load rfl rfl (I.ld1 rfl (RowL.cell h rfl))) rfl rfl rfl ?_
        refine LL.val (R.gtF rfl rfl rfl (by omega)) rfl rfl rfl ?_
        refine LL.nilS ?_
        refine CC.no rfl ?_
        refine CC.skip ?_
        refine EE.thenN ?_
        refine CC.seq ?_
        refine CC.region ?_
        refine LL.val (R.field rfl rfl (I.fld rfl)) rfl rfl rfl ?_
        refine LL.val (R.load rfl rfl (I.ld1 rfl (RowL.cell rg27 rfl))) rfl rfl rfl ?_
        refine LL.val (R.assign rfl rfl) rfl rfl rfl ?_
        refine LL.nilS ?_
        refine CC.seq ?_
        refine CC.seq ?_
        refine CC.region ?_
        refine LL.val (R.move rfl rfl) rfl rfl rfl ?_
        (refine LL.call (R.call rfl rfl rfl) rfl rfl rfl (hpre _) ?_; rintro e W' ⟨rfl, rfl⟩; refine ⟨_, rfl, ?_⟩)
        refine LL.nilS ?_
        refine CC.no rfl ?_
        refine CC.region ?_
        refine LL.val (R.move rfl rfl) rfl rfl rfl ?_
        (refine LL.val (R.addS (a := [47]) (b := t) rfl rfl rfl (by simp only [List.length_cons, List.length_nil]; omega)) rfl rfl rfl ?_; rw [show ([47] : Bs) ++ t = L from hL])
        refine LL.val (R.assign rfl rfl) rfl rfl rfl ?_
        refine LL.nilS ?_
        refine CC.seq ?_
        refine CC.region ?_
        refine LL.val (R.move rfl rfl) rfl rfl rfl ?_
        have lg681 := rg27.lt
        have lg682 := h.lt
        (refine LL.call (R.call rfl rfl rfl) rfl rfl rfl (wparts_any L _ (by assumption) (by omega)) ?_; rintro e Wg680 ⟨vp, rfl, op, bg677⟩; refine ⟨_, rfl, ?_⟩; rw [if_pos hz] at op; rw [hz]; obtain ⟨ap, cp, rfl, hcp⟩ := (op.reads stEnc).form rfl)
        have zbg677 := bg677.size
        replace rg27 := rg27.up bg677
        replace hm := hm.up bg677
        replace gw := gw.up bg677
        replace hp := hp.up bg677
        replace h := h.up bg677
        refine LL.val (R.move rfl rfl) rfl rfl rfl ?_
        refine LL.val (R.extract rfl rfl rfl) rfl rfl rfl ?_
        refine LL.val (R.extract rfl rfl rfl) rfl rfl rfl ?_
        refine LL.val (R.assign rfl rfl) rfl rfl rfl ?_
        refine LL.val (R.assign rfl rfl) rfl rfl rfl ?_
        refine LL.nilS ?_
        refine CC.seq ?_
        refine CC.seq ?_
        refine CC.region ?_
        refine LL.val (R.move rfl rfl) rfl rfl rfl ?_
        refine LL.val (R.neF rfl rfl rfl (by omega)) rfl rfl rfl ?_
        refine LL.nilS ?_
        refine CC.no rfl ?_
        refine CC.skip ?_
        refine EE.thenN ?_
        refine CC.seq ?_
        refine CC.region ?_
        refine LL.val (R.move rfl rfl) rfl rfl rfl ?_
        refine LL.val (R.move rfl rfl) rfl rfl rfl ?_
        (refine LL.call (R.call rfl rfl rfl) rfl rfl rfl (lead_any g _ (partsL L) ls h (op.reads stEnc) hp (by omega) (by omega)) ?_; rintro e Wg905 ⟨rfl, ⟨v2, B2, hN, hp2⟩, tg904⟩; clear h; have h := hN; clear hN op; refine ⟨_, rfl, ?_⟩)
        have ztg904 := tg904.size
        replace rg27 := rg27.kept tg904 ⟨rg27.lt, by omega⟩
        replace hm := hm.kept tg904 ⟨by omega, by omega⟩
        replace gw := gw.kept tg904 ⟨by omega, by omega⟩
        replace hp := hp.kept tg904 ⟨by omega, by omega⟩
        refine LL.nilS ?_
        refine CC.region ?_
        refine LL.val (R.move rfl rfl) rfl rfl rfl ?_
        (refine LL.call (R.call rfl rfl rfl) rfl rfl rfl (on_any g h hp2 (by rw [List.length_append]; omega)) ?_; rintro e Wg951 ⟨rfl, hW, tg950⟩; refine ⟨_, rfl, ?_⟩)
        have ztg950 := tg950.size
        replace hp2 := hp2.kept tg950 ⟨by omega, by omega⟩
        replace rg27 := rg27.kept tg950 ⟨rg27.lt, by omega⟩
        replace hm := hm.kept tg950 ⟨by omega, by omega⟩
        replace gw := gw.kept tg950 ⟨by omega, by omega⟩
        replace hp := hp.kept tg950 ⟨by omega, by omega⟩
        refine LL.nil ?_
        refine EE.end _ rfl rfl ?_
        exact ⟨rfl, hW, gw⟩
    · rw [if_neg hz]
      obtain ⟨e0, he0⟩ : ∃ e0, pathN L = e0 := ⟨_, rfl⟩
      have hz' : (e0 : Int) ≠ 0 := by rw [← he0]; omega
      have hpre := fun X => prefix_any t X
      rw [decide_eq_false hh] at hpre
      cases fol with
      | true =>
        refine X.fn Tryd.func50 rfl (n := 66) rfl rfl ?_
        refine CC.seq ?_
        refine CC.region ?_
        have lh16 := h.lt
        refine LL.box [Value.int IntKind.i64 fi, Value.int IntKind.i64 fk, strV t] rfl rfl rfl rfl rfl ?_
        intro Wh18 gh19 egh19 rh20 zh21 bh17
        replace hm := hm.up bh17
        replace gw := gw.up bh17
        replace hp := hp.up bh17
        replace h := h.up bh17
        refine LL.nilS ?_
        refine CC.seq ?_
        refine CC.seq ?_
        refine CC.region ?_
        refine LL.val (R.move rfl rfl) rfl rfl rfl ?_
        refine LL.val (R.nil rfl rfl) rfl rfl rfl ?_
        refine LL.val (R.field rfl rfl (I.fld rfl)) rfl rfl rfl ?_
        refine LL.val (R.load rfl rfl (I.ld1 rfl (RowL.cell h rfl))) rfl rfl rfl ?_
        refine LL.val (R.len rfl rfl rfl rfl) rfl rfl rfl ?_
        refine LL.vsplit (fun h => R.eqT rfl rfl rfl h) (fun h => R.eqF rfl rfl rfl h) rfl rfl rfl (fun ch118 => ?_) (fun ch118 => ?_)
        refine LL.val (R.move rfl rfl) rfl rfl rfl ?_
        refine LL.val (R.move rfl rfl) rfl rfl rfl ?_
        refine LL.val (R.nil rfl rfl) rfl rfl rfl ?_
        refine LL.val (R.field rfl rfl (I.fld rfl)) rfl rfl rfl ?_
        refine LL.val (R.load rfl rfl (I.ld1 rfl (RowL.cell h rfl))) rfl rfl rfl ?_
        refine LL.val (R.not rfl rfl) rfl rfl rfl ?_
        refine LL.val (R.pick rfl rfl rfl) rfl rfl rfl ?_
        refine LL.nilS ?_
        refine CC.no rfl ?_
        refine CC.skip ?_
        refine EE.thenN ?_
        refine CC.seq ?_
        refine CC.region ?_
        refine LL.val (R.move rfl rfl) rfl rfl rfl ?_
        refine LL.val (R.nil rfl rfl) rfl rfl rfl ?_
        refine LL.val (R.field rfl rfl (I.fld rfl)) rfl rfl rfl ?_
        refine LL.val (R.load rfl rfl (I.ld1 rfl (RowL.cell h rfl))) rfl rfl rfl ?_
        refine LL.val (R.addNc rfl rfl rfl rfl (by omega)) rfl rfl rfl ?_
        refine LL.val (R.nil rfl rfl) rfl rfl rfl ?_
        refine LL.val (R.field rfl rfl (I.fld rfl)) rfl rfl rfl ?_
        refine LL.store rfl rfl rfl rfl h (by exact Nat.le_of_ble_eq_true rfl) rfl rfl rfl rfl ?_
        intro Wh360 rh361 bh359 zh362
        have hlbh359 := h.lt
        replace rh361 : RowL Wh360 _ 60 [Value.int IntKind.i64 0, Value.int IntKind.i64 0, strV [], Value.int IntKind.i64 0, Value.int IntKind.i64 0, Value.bool false, Value.int IntKind.i64 dir, Value.slice a n c, Value.int IntKind.i64 ↑(links + 1), Value.bool true, Value.bool true] := rh361
        clear h
        replace rh20 := rh20.gr bh359 (by have := rh20.lt; omega)
        replace hm := hm.gr bh359 (by have := hm.lt; omega)
        replace gw := gw.gr bh359 (by omega)
        replace hp := hp.gr bh359 (by omega)
        have h := rh361
        clear rh361
        refine LL.nilS ?_
        refine CC.seq ?_
        refine CC.seq ?_
        refine CC.region ?_
        refine LL.val (R.move rfl rfl) rfl rfl rfl ?_
        refine LL.val (R.nil rfl rfl) rfl rfl rfl ?_
        refine LL.val (R.field rfl rfl (I.fld rfl)) rfl rfl rfl ?_
        refine LL.val (R.load rfl rfl (I.ld1 rfl (RowL.cell h rfl))) rfl rfl rfl ?_
        refine LL.val (R.gtF rfl rfl rfl (by omega)) rfl rfl rfl ?_
        refine LL.nilS ?_
        refine CC.no rfl ?_
        refine CC.skip ?_
        refine EE.thenN ?_
        refine CC.seq ?_
        refine CC.region ?_
        refine LL.val (R.field rfl rfl (I.fld rfl)) rfl rfl rfl ?_
        refine LL.val (R.load rfl rfl (I.ld1 rfl (RowL.cell rh20 rfl))) rfl rfl rfl ?_
        refine LL.val (R.assign rfl rfl) rfl rfl rfl ?_
        refine LL.nilS ?_
        refine CC.seq ?_
        refine CC.seq ?_
        refine CC.region ?_
        refine LL.val (R.move rfl rfl) rfl rfl rfl ?_
        (refine LL.call (R.call rfl rfl rfl) rfl rfl rfl (hpre _) ?_; rintro e W' ⟨rfl, rfl⟩; refine ⟨_, rfl, ?_⟩)
        refine LL.nilS ?_
        refine CC.no rfl ?_
        refine CC.region ?_
        refine LL.val (R.move rfl rfl) rfl rfl rfl ?_
        (refine LL.val (R.addS (a := [47]) (b := t) rfl rfl rfl (by simp only [List.length_cons, List.length_nil]; omega)) rfl rfl rfl ?_; rw [show ([47] : Bs) ++ t = L from hL])
        refine LL.val (R.assign rfl rfl) rfl rfl rfl ?_
        refine LL.nilS ?_
        refine CC.seq ?_
        refine CC.region ?_
        refine LL.val (R.move rfl rfl) rfl rfl rfl ?_
        have lh559 := rh20.lt
        have lh560 := h.lt
        (refine LL.call (R.call rfl rfl rfl) rfl rfl rfl (wparts_any L _ (by assumption) (by omega)) ?_; rintro e Wh558 ⟨vp, rfl, op, bh555⟩; refine ⟨_, rfl, ?_⟩; rw [if_neg hz] at op; rw [he0]; obtain ⟨ap, cp, rfl, hcp⟩ := (op.reads stEnc).form rfl)
        have zbh555 := bh555.size
        replace rh20 := rh20.up bh555
        replace hm := hm.up bh555
        replace gw := gw.up bh555
        replace hp := hp.up bh555
        replace h := h.up bh555
        refine LL.val (R.move rfl rfl) rfl rfl rfl ?_
        refine LL.val (R.extract rfl rfl rfl) rfl rfl rfl ?_
        refine LL.val (R.extract rfl rfl rfl) rfl rfl rfl ?_
        refine LL.val (R.assign rfl rfl) rfl rfl rfl ?_
        refine LL.val (R.assign rfl rfl) rfl rfl rfl ?_
        refine LL.nilS ?_
        refine CC.seq ?_
        refine CC.seq ?_
        refine CC.region ?_
        refine LL.val (R.move rfl rfl) rfl rfl rfl ?_
        refine LL.val (R.neT rfl rfl rfl (by omega)) rfl rfl rfl ?_
        refine LL.nilS ?_
        refine CC.yes rfl ?_
        refine CC.seq ?_
        refine CC.region ?_
        refine LL.val (R.move rfl rfl) rfl rfl rfl ?_
        refine LL.val (R.move rfl rfl) rfl rfl rfl ?_
        refine LL.val (R.buildV rfl rfl (v := .agg #[Value.int IntKind.i64 ↑e0, Value.int IntKind.i64 0, Value.string { data := #[] }, Value.int IntKind.i64 0, Value.int IntKind.i64 0]) (fun _ => by kernel_rfl)) rfl rfl rfl ?_
        (refine LL.call (R.call rfl rfl rfl) rfl rfl rfl (end_any g (e0, 0, [], 0, 0) h) ?_; rintro e Wh736 ⟨rfl, hN, th735⟩; clear h; have h := hN; clear hN; refine ⟨_, rfl, ?_⟩)
        have zth735 := th735.size
        replace rh20 := rh20.kept th735 ⟨rh20.lt, by omega⟩
        replace hm := hm.kept th735 ⟨by omega, by omega⟩
        replace gw := gw.kept th735 ⟨by omega, by omega⟩
        replace hp := hp.kept th735 ⟨by omega, by omega⟩
        refine LL.nilS ?_
        refine CC.ret ?_
        refine EE.thenR ?_
        refine EE.ret _ rfl rfl ?_
        exact ⟨rfl, WkAt.fin h hp (by omega) _ _ _ rfl, gw⟩
        refine LL.val (R.move rfl rfl) rfl rfl rfl ?_
        refine LL.skip rfl rfl ?_
        refine LL.skip rfl rfl ?_
        refine LL.skip rfl rfl ?_
        refine LL.skip rfl rfl ?_
        refine LL.skip rfl rfl ?_
        refine LL.val (R.pick rfl rfl rfl) rfl rfl rfl ?_
        refine LL.nilS ?_
        refine CC.no rfl ?_
        refine CC.skip ?_
        refine EE.thenN ?_
        refine CC.seq ?_
        refine CC.region ?_
        refine LL.val (R.move rfl rfl) rfl rfl rfl ?_
        refine LL.val (R.nil rfl rfl) rfl rfl rfl ?_
        refine LL.val (R.field rfl rfl (I.fld rfl)) rfl rfl rfl ?_
        refine LL.val (R.load rfl rfl (I.ld1 rfl (RowL.cell h rfl))) rfl rfl rfl ?_
        refine LL.val (R.addNc rfl rfl rfl rfl (by omega)) rfl rfl rfl ?_
        refine LL.val (R.nil rfl rfl) rfl rfl rfl ?_
        refine LL.val (R.field rfl rfl (I.fld rfl)) rfl rfl rfl ?_
        refine LL.store rfl rfl rfl rfl h (by exact Nat.le_of_ble_eq_true rfl) rfl rfl rfl rfl ?_
        intro Wh901 rh902 bh900 zh903
        have hlbh900 := h.lt
        replace rh902 : RowL Wh901 _ 60 [Value.int IntKind.i64 0, Value.int IntKind.i64 0, strV [], Value.int IntKind.i64 0, Value.int IntKind.i64 0, Value.bool false, Value.int IntKind.i64 dir, Value.slice a n c, Value.int IntKind.i64 ↑(links + 1), Value.bool true, Value.bool true] := rh902
        clear h
        replace rh20 := rh20.gr bh900 (by have := rh20.lt; omega)
        replace hm := hm.gr bh900 (by have := hm.lt; omega)
        replace gw := gw.gr bh900 (by omega)
        replace hp := hp.gr bh900 (by omega)
        have h := rh902
        clear rh902
        refine LL.nilS ?_
        refine CC.seq ?_
        refine CC.seq ?_
        refine CC.region ?_
        refine LL.val (R.move rfl rfl) rfl rfl rfl ?_
        refine LL.val (R.nil rfl rfl) rfl rfl rfl ?_
        refine LL.val (R.field rfl rfl (I.fld rfl)) rfl rfl rfl ?_
        refine LL.val (R.load rfl rfl (I.ld1 rfl (RowL.cell h rfl))) rfl rfl rfl ?_
        refine LL.val (R.gtF rfl rfl rfl (by omega)) rfl rfl rfl ?_
        refine LL.nilS ?_
        refine CC.no rfl ?_
        refine CC.skip ?_
        refine EE.thenN ?_
        refine CC.seq ?_
        refine CC.region ?_
        refine LL.val (R.field rfl rfl (I.fld rfl)) rfl rfl rfl ?_
        refine LL.val (R.load rfl rfl (I.ld1 rfl (RowL.cell rh20 rfl))) rfl rfl rfl ?_
        refine LL.val (R.assign rfl rfl) rfl rfl rfl ?_
        refine LL.nilS ?_
        refine CC.seq ?_
        refine CC.seq ?_
        refine CC.region ?_
        refine LL.val (R.move rfl rfl) rfl rfl rfl ?_
        (refine LL.call (R.call rfl rfl rfl) rfl rfl rfl (hpre _) ?_; rintro e W' ⟨rfl, rfl⟩; refine ⟨_, rfl, ?_⟩)
        refine LL.nilS ?_
        refine CC.no rfl ?_
        refine CC.region ?_
        refine LL.val (R.move rfl rfl) rfl rfl rfl ?_
        (refine LL.val (R.addS (a := [47]) (b := t) rfl rfl rfl (by simp only [List.length_cons, List.length_nil]; omega)) rfl rfl rfl ?_; rw [show ([47] : Bs) ++ t = L from hL])
        refine LL.val (R.assign rfl rfl) rfl rfl rfl ?_
        refine LL.nilS ?_
        refine CC.seq ?_
        refine CC.region ?_
        refine LL.val (R.move rfl rfl) rfl rfl rfl ?_
        have lh1100 := rh20.lt
        have lh1101 := h.lt
        (refine LL.call (R.call rfl rfl rfl) rfl rfl rfl (wparts_any L _ (by assumption) (by omega)) ?_; rintro e Wh1099 ⟨vp, rfl, op, bh1096⟩; refine ⟨_, rfl, ?_⟩; rw [if_neg hz] at op; rw [he0]; obtain ⟨ap, cp, rfl, hcp⟩ := (op.reads stEnc).form rfl)
        have zbh1096 := bh1096.size
        replace rh20 := rh20.up bh1096
        replace hm := hm.up bh1096
        replace gw := gw.up bh1096
        replace hp := hp.up bh1096
        replace h := h.up bh1096
        refine LL.val (R.move rfl rfl) rfl rfl rfl ?_
        refine LL.val (R.extract rfl rfl rfl) rfl rfl rfl ?_
        refine LL.val (R.extract rfl rfl rfl) rfl rfl rfl ?_
        refine LL.val (R.assign rfl rfl) rfl rfl rfl ?_
        refine LL.val (R.assign rfl rfl) rfl rfl rfl ?_
        refine LL.nilS ?_
        refine CC.seq ?_
        refine CC.seq ?_
        refine CC.region ?_
        refine LL.val (R.move rfl rfl) rfl rfl rfl ?_
        refine LL.val (R.neT rfl rfl rfl (by omega)) rfl rfl rfl ?_
        refine LL.nilS ?_
        refine CC.yes rfl ?_
        refine CC.seq ?_
        refine CC.region ?_
        refine LL.val (R.move rfl rfl) rfl rfl rfl ?_
        refine LL.val (R.move rfl rfl) rfl rfl rfl ?_
        refine LL.val (R.buildV rfl rfl (v := .agg #[Value.int IntKind.i64 ↑e0, Value.int IntKind.i64 0, Value.string { data := #[] }, Value.int IntKind.i64 0, Value.int IntKind.i64 0]) (fun _ => by kernel_rfl)) rfl rfl rfl ?_
        (refine LL.call (R.call rfl rfl rfl) rfl rfl rfl (end_any g (e0, 0, [], 0, 0) h) ?_; rintro e Wh1277 ⟨rfl, hN, th1276⟩; clear h; have h := hN; clear hN; refine ⟨_, rfl, ?_⟩)
        have zth1276 := th1276.size
        replace rh20 := rh20.kept th1276 ⟨rh20.lt, by omega⟩
        replace hm := hm.kept th1276 ⟨by omega, by omega⟩
        replace gw := gw.kept th1276 ⟨by omega, by omega⟩
        replace hp := hp.kept th1276 ⟨by omega, by omega⟩
        refine LL.nilS ?_
        refine CC.ret ?_
        refine EE.thenR ?_
        refine EE.ret _ rfl rfl ?_
        exact ⟨rfl, WkAt.fin h hp (by omega) _ _ _ rfl, gw⟩
      | false =>
        have := he' rfl
        refine X.fn Tryd.func50 rfl (n := 66) rfl rfl ?_
        refine CC.seq ?_
        refine CC.region ?_
        have li16 := h.lt
        refine LL.box [Value.int IntKind.i64 fi, Value.int IntKind.i64 fk, strV t] rfl rfl rfl rfl rfl ?_
        intro Wi18 gi19 egi19 ri20 zi21 bi17
        replace hm := hm.up bi17
        replace gw := gw.up bi17
        replace hp := hp.up bi17
        replace h := h.up bi17
        refine LL.nilS ?_
        refine CC.seq ?_
        refine CC.seq ?_
        refine CC.region ?_
        refine LL.val (R.move rfl rfl) rfl rfl rfl ?_
        refine LL.val (R.nil rfl rfl) rfl rfl rfl ?_
        refine LL.val (R.field rfl rfl (I.fld rfl)) rfl rfl rfl ?_
        refine LL.val (R.load rfl rfl (I.ld1 rfl (RowL.cell h rfl))) rfl rfl rfl ?_
        refine LL.val (R.len rfl rfl rfl rfl) rfl rfl rfl ?_
        refine LL.val (R.eqF rfl rfl rfl (by omega)) rfl rfl rfl ?_
        refine LL.val (R.move rfl rfl) rfl rfl rfl ?_
        refine LL.skip rfl rfl ?_
        refine LL.skip rfl rfl ?_
        refine LL.skip rfl rfl ?_
        refine LL.skip rfl rfl ?_
        refine LL.skip rfl rfl ?_
        refine LL.val (R.pick rfl rfl rfl) rfl rfl rfl ?_
        refine LL.nilS ?_
        refine CC.no rfl ?_
        refine CC.skip ?_
        refine EE.thenN ?_
        refine CC.seq ?_
        refine CC.region ?_
        refine LL.val (R.move rfl rfl) rfl rfl rfl ?_
        refine LL.val (R.nil rfl rfl) rfl rfl rfl ?_
        refine LL.val (R.field rfl rfl (I.fld rfl)) rfl rfl rfl ?_
        refine LL.val (R.load rfl rfl (I.ld1 rfl (RowL.cell h rfl))) rfl rfl rfl ?_
        refine LL.val (R.addNc rfl rfl rfl rfl (by omega)) rfl rfl rfl ?_
        refine LL.val (R.nil rfl rfl) rfl rfl rfl ?_
        refine LL.val (R.field rfl rfl (I.fld rfl)) rfl rfl rfl ?_
        refine LL.store rfl rfl rfl rfl h (by exact Nat.le_of_ble_eq_true rfl) rfl rfl rfl rfl ?_
        intro Wi279 ri280 bi278 zi281
        have hlbi278 := h.lt
        replace ri280 : RowL Wi279 _ 60 [Value.int IntKind.i64 0, Value.int IntKind.i64 0, strV [], Value.int IntKind.i64 0, Value.int IntKind.i64 0, Value.bool false, Value.int IntKind.i64 dir, Value.slice a n c, Value.int IntKind.i64 ↑(links + 1), Value.bool false, Value.bool true] := ri280
        clear h
        replace ri20 := ri20.gr bi278 (by have := ri20.lt; omega)
        replace hm := hm.gr bi278 (by have := hm.lt; omega)
        replace gw := gw.gr bi278 (by omega)
        replace hp := hp.gr bi278 (by omega)
        have h := ri280
        clear ri280
        refine LL.nilS ?_
        refine CC.seq ?_
        refine CC.seq ?_
        refine CC.region ?_
        refine LL.val (R.move rfl rfl) rfl rfl rfl ?_
        refine LL.val (R.nil rfl rfl) rfl rfl rfl ?_
        refine LL.val (R.field rfl rfl (I.fld rfl)) rfl rfl rfl ?_
        refine LL.val (R.load rfl rfl (I.ld1 rfl (RowL.cell h rfl))) rfl rfl rfl ?_
        refine LL.val (R.gtF rfl rfl rfl (by omega)) rfl rfl rfl ?_
        refine LL.nilS ?_
        refine CC.no rfl ?_
        refine CC.skip ?_
        refine EE.thenN ?_
        refine CC.seq ?_
        refine CC.region ?_
        refine LL.val (R.field rfl rfl (I.fld rfl)) rfl rfl rfl ?_
        refine LL.val (R.load rfl rfl (I.ld1 rfl (RowL.cell ri20 rfl))) rfl rfl rfl ?_
        refine LL.val (R.assign rfl rfl) rfl rfl rfl ?_
        refine LL.nilS ?_
        refine CC.seq ?_
        refine CC.seq ?_
        refine CC.region ?_
        refine LL.val (R.move rfl rfl) rfl rfl rfl ?_
        (refine LL.call (R.call rfl rfl rfl) rfl rfl rfl (hpre _) ?_; rintro e W' ⟨rfl, rfl⟩; refine ⟨_, rfl, ?_⟩)
        refine LL.nilS ?_
        refine CC.no rfl ?_
        refine CC.region ?_
        refine LL.val (R.move rfl rfl) rfl rfl rfl ?_
        (refine LL.val (R.addS (a := [47]) (b := t) rfl rfl rfl (by simp only [List.length_cons, List.length_nil]; omega)) rfl rfl rfl ?_; rw [show ([47] : Bs) ++ t = L from hL])
        refine LL.val (R.assign rfl rfl) rfl rfl rfl ?_
        refine LL.nilS ?_
        refine CC.seq ?_
        refine CC.region ?_
        refine LL.val (R.move rfl rfl) rfl rfl rfl ?_
        have li478 := ri20.lt
        have li479 := h.lt
        (refine LL.call (R.call rfl rfl rfl) rfl rfl rfl (wparts_any L _ (by assumption) (by omega)) ?_; rintro e Wi477 ⟨vp, rfl, op, bi474⟩; refine ⟨_, rfl, ?_⟩; rw [if_neg hz] at op; rw [he0]; obtain ⟨ap, cp, rfl, hcp⟩ := (op.reads stEnc).form rfl)
        have zbi474 := bi474.size
        replace ri20 := ri20.up bi474
        replace hm := hm.up bi474
        replace gw := gw.up bi474
        replace hp := hp.up bi474
        replace h := h.up bi474
        refine LL.val (R.move rfl rfl) rfl rfl rfl ?_
        refine LL.val (R.extract rfl rfl rfl) rfl rfl rfl ?_
        refine LL.val (R.extract rfl rfl rfl) rfl rfl rfl ?_
        refine LL.val (R.assign rfl rfl) rfl rfl rfl ?_
        refine LL.val (R.assign rfl rfl) rfl rfl rfl ?_
        refine LL.nilS ?_
        refine CC.seq ?_
        refine CC.seq ?_
        refine CC.region ?_
        refine LL.val (R.move rfl rfl) rfl rfl rfl ?_
        refine LL.val (R.neT rfl rfl rfl (by omega)) rfl rfl rfl ?_
        refine LL.nilS ?_
        refine CC.yes rfl ?_
        refine CC.seq ?_
        refine CC.region ?_
        refine LL.val (R.move rfl rfl) rfl rfl rfl ?_
        refine LL.val (R.move rfl rfl) rfl rfl rfl ?_
        refine LL.val (R.buildV rfl rfl (v := .agg #[Value.int IntKind.i64 ↑e0, Value.int IntKind.i64 0, Value.string { data := #[] }, Value.int IntKind.i64 0, Value.int IntKind.i64 0]) (fun _ => by kernel_rfl)) rfl rfl rfl ?_
        (refine LL.call (R.call rfl rfl rfl) rfl rfl rfl (end_any g (e0, 0, [], 0, 0) h) ?_; rintro e Wi655 ⟨rfl, hN, ti654⟩; clear h; have h := hN; clear hN; refine ⟨_, rfl, ?_⟩)
        have zti654 := ti654.size
        replace ri20 := ri20.kept ti654 ⟨ri20.lt, by omega⟩
        replace hm := hm.kept ti654 ⟨by omega, by omega⟩
        replace gw := gw.kept ti654 ⟨by omega, by omega⟩
        replace hp := hp.kept ti654 ⟨by omega, by omega⟩
        refine LL.nilS ?_
        refine CC.ret ?_
        refine EE.thenR ?_
        refine EE.ret _ rfl rfl ?_
        exact ⟨rfl, WkAt.fin h hp (by omega) _ _ _ rfl, gw⟩
end
end Go.Proofs.YtbbddpnjglijdaaDoor
