/- What the statements' walks use: Kit, Pipe, Exec, Step, Range, Free, TRows, TGrow, Up, Res, Kept, Seq, Res1, Bs, Auto, EqS, Mesh, TNew, SeqZ, GrowR, FreeZ, Grow, Sl, TWalk, OwnZ, Gw, Fwd, St0, St1, St2, TClear, TSet, TFld, CellE. -/
import Derived.WalkKit
import Derived.Lib.Hide
import Derived.RangeFuncBox
import Derived.Deep.AppendLies
import Derived.Deep.RegionLaw
import Derived.Deep.DeepMust
import Derived.WalkSpells
import Derived.WalkLawsBesides
import Derived.Lib.SlBytesConst
import Derived.RangeFuncNested
import Derived.RangeFuncBound
import Derived.RangeFuncCalls
import Derived.RangeFuncLeaves
import Derived.Shelf.Abstract
import Derived.Shelf.RegionOpen
import Derived.OwnWalkIn
import Derived.TacticsInMore
import Derived.LoopNIn
import Derived.LoopIn
import Derived.StillTailTactics
import Derived.OrdersIn
import Derived.Laws.CopyRow
import Derived.IntWalk
import Derived.Laws.OwnMore
import Derived.ArgAppend
import Derived.ScopeJumps
import Derived.Scope
import Derived.Tactics
import Derived.Tactics2
import Derived.ChangeKeysEq
import Derived.Laws.StructEq
import Derived.Deep.Upon
import Derived.Deep.RegionLawGrows
import Derived.Deep.RegionWith
import Derived.Test.YtompfnnmiccipaaGreatDoorProg
/- What is said of slices, over any program: 'Reads': a slice whose elements are these; small facts on worlds. -/
namespace Go.Proofs.YtompfnnmiccipaaGreatDoor
set_option linter.unusedVariables false
set_option linter.unusedSimpArgs false
open Go.RowKit

/-- v is a slice, of one-cell elements, that are xs in the world w. -/
def Reads (w : World) (v : Value) (xs : List Value) : Prop :=
  ∃ a cap, v = .slice a xs.length cap ∧ xs.length ≤ cap ∧
    (xs ≠ [] → ∃ b off, a = some ⟨b, off, none⟩ ∧ b < w.heap.size ∧ ∀ j, j < xs.length → w.cell? ⟨b, off + j, none⟩ = xs[j]?)

theorem Reads.nil (w : World) : Reads w (.slice none 0 0) [] := ⟨none, 0, rfl, Nat.le_refl _, fun h => (h rfl).elim⟩

theorem Reads.same {w w' : World} {v : Value} {xs : List Value} (h : Reads w v xs) (hs : w.heap.size ≤ w'.heap.size) (hb : ∀ k, k < w.heap.size → w'.heap[k]? = w.heap[k]?) : Reads w' v xs := by
  obtain ⟨a, cap, e, hc, h⟩ := h
  refine ⟨a, cap, e, hc, fun hne => ?_⟩
  obtain ⟨b, off, ha, hlt, hcell⟩ := h hne
  exact ⟨b, off, ha, Nat.lt_of_lt_of_le hlt hs, fun j hj => (World.cell?_of_block (hb b hlt)).trans (hcell j hj)⟩

theorem Reads.below {w w' : World} {v : Value} {xs : List Value} (h : Reads w v xs) (hb : Below w.heap.size w w') : Reads w' v xs := h.same hb.size hb.block

theorem Reads.drew {w : World} {v : Value} {xs : List Value} (h : Reads w v xs) : Reads w.drew v xs := h.same (Nat.le_refl _) fun _ _ => rfl

theorem Reads.alloc {w : World} {v : Value} {xs : List Value} (h : Reads w v xs) (o : Obj) : Reads (w.alloc o) v xs := h.below ((Below.refl _ _).alloc (Nat.le_refl _) o)

/-- The element k, as the walk asks for it. -/
theorem Reads.at {w : World} {a : Option Addr} {len cap : Nat} {xs : List Value} (h : Reads w (.slice a len cap) xs) : len = xs.length ∧ len ≤ cap ∧ (0 < len → ∃ b off, a = some ⟨b, off, none⟩ ∧ b < w.heap.size ∧ ∀ j, j < len → w.cell? ⟨b, off + j, none⟩ = some (xs.getD j undef)) := by
  obtain ⟨a', cap', e, hc, h⟩ := h
  cases e
  refine ⟨rfl, hc, fun hl => ?_⟩
  obtain ⟨b, off, ha, hlt, hcell⟩ := h (by intro e; simp [e] at hl)
  exact ⟨b, off, ha, hlt, fun j hj => by rw [hcell j hj]; simp [hj]⟩

theorem Reads.form {w : World} {v : Value} {xs : List Value} (h : Reads w v xs) : ∃ a cap, v = .slice a xs.length cap ∧ xs.length ≤ cap ∧ (0 < xs.length → ∃ b off, a = some ⟨b, off, none⟩ ∧ b < w.heap.size ∧ ∀ j, j < xs.length → w.cell? ⟨b, off + j, none⟩ = some (xs.getD j undef)) := by
  obtain ⟨a, cap, rfl, hc, h'⟩ := id h
  exact ⟨a, cap, rfl, hc, h.at.2.2⟩

/-- An element type of one cell, as the append law wants it. -/
structure El (P : Program) (T e : TypeId) (z : Value) (bytes : Nat) : Prop where
  under : P.underlying T = some (.slice e)
  info : ∃ i, P.info? e = some i ∧ i.zero = some z ∧ i.size = 1 ∧ i.bytes = bytes
  one : z.cells = #[z]

section
variable {P : Program} {T e : TypeId} {z : Value} {bytes : Nat}

end

/-- A block that is a row of one-cell elements, none frozen: these. -/
def RowL (w : World) (g : Nat) (e : TypeId) (xs : List Value) : Prop := w.heap[g]? = some (.cells xs.toArray e (0, 0))

theorem RowL.lt {w : World} {g e : Nat} {xs : List Value} (h : RowL w g e xs) : g < w.heap.size := (Array.getElem?_eq_some_iff.1 h).1
theorem RowL.cell {w : World} {g e : Nat} {xs : List Value} (h : RowL w g e xs) {j : Nat} {u : Value} (hu : xs[j]? = some u) : w.cell? ⟨g, j, none⟩ = some u := by
  simp [World.cell?, show w.heap[g]? = _ from h, hu]
theorem RowL.frozen {w : World} {g e : Nat} {xs : List Value} (h : RowL w g e xs) (j : Nat) : w.frozen? ⟨g, j, none⟩ = false := by
  simp [World.frozen?, show w.heap[g]? = _ from h]
theorem RowL.same {w w' : World} {g e : Nat} {xs : List Value} (h : RowL w g e xs) (hb : w'.heap[g]? = w.heap[g]?) : RowL w' g e xs := hb.trans h
theorem RowL.alloc {w : World} {g e : Nat} {xs : List Value} (h : RowL w g e xs) (o : Obj) : RowL (w.alloc o) g e xs := h.same (Below.heap_alloc w o g h.lt)
theorem RowL.drew {w : World} {g e : Nat} {xs : List Value} (h : RowL w g e xs) : RowL w.drew g e xs := h
theorem RowL.below {w w' : World} {g e B : Nat} {xs : List Value} (h : RowL w g e xs) (hb : Below B w w') (hg : g < B) : RowL w' g e xs := h.same (hb.block g hg)
theorem RowL.set {w : World} {g e : Nat} {xs : List Value} (h : RowL w g e xs) (j : Nat) (u : Value) : RowL (w.setCell ⟨g, j, none⟩ u) g e (xs.set j u) := by
  obtain ⟨hlt, hk⟩ := Array.getElem?_eq_some_iff.1 h
  show (w.heap.modify g _)[g]? = _
  rw [Array.getElem?_eq_getElem (by rw [Array.size_modify]; exact hlt), Array.getElem_modify_self, hk]
  simp
theorem RowL.new (w : World) (e : TypeId) (xs : List Value) : RowL (w.alloc (.cells xs.toArray e)) w.heap.size e xs := World.alloc_heap_new w _
theorem RowL.reads {w : World} {g e : Nat} {xs : List Value} (h : RowL w g e xs) (cap : Nat) (hc : xs.length ≤ cap) : Reads w (.slice (some ⟨g, 0, none⟩) xs.length cap) xs :=
  ⟨_, cap, rfl, hc, fun _ => ⟨g, 0, rfl, h.lt, fun j hj => by rw [Nat.zero_add, h.cell (j := j) (u := xs[j]) (by simp [hj])]; simp [hj]⟩⟩
section
variable {P : Program} {T e : TypeId} {z : Value} {bytes : Nat}
end

theorem Reads.take {w : World} {a : Option Addr} {len cap : Nat} {xs : List Value} (h : Reads w (.slice a len cap) xs) (m : Nat) (hm : m ≤ len) (c : Nat) (hc : m ≤ c) : Reads w (.slice a m c) (xs.take m) := by
  obtain ⟨a', cap', e', hc', h'⟩ := h
  cases e'
  refine ⟨a, c, by simp [Nat.min_eq_left hm], by simp; omega, fun hne => ?_⟩
  obtain ⟨b, off, ha, hb, hcell⟩ := h' (by intro e; simp [e] at hne)
  refine ⟨b, off, ha, hb, fun j hj => ?_⟩
  simp only [List.length_take] at hj
  rw [hcell j (by omega)]
  rw [List.getElem?_take, if_pos (by omega)]

theorem run_append_nilsrc {P : Program} (w : World) {t ty e : TypeId} {i : TypeInfo} (ht : P.underlying t = some (.slice e)) (hi : P.info? e = some i) (g n cap c : Nat) (h : n ≤ cap) :
    (Builtin.append_ #[t, t] ty #[.slice (some ⟨g, 0, none⟩) n cap, .slice none 0 c]).run P w = .ok (.slice (some ⟨g, 0, none⟩) n cap) w := by
  simp [Builtin.append_, run_underlying ht, sizeOf, typeInfo, hi, Builtin.lenOf, Builtin.firstCells, loadCells, loadCellsFrom, h, storeCells]
theorem run_append_nilnil {P : Program} (w : World) {t ty e : TypeId} {i : TypeInfo} (ht : P.underlying t = some (.slice e)) (hi : P.info? e = some i) (c : Nat) :
    (Builtin.append_ #[t, t] ty #[.slice none 0 0, .slice none 0 c]).run P w = .ok (.slice none 0 0) w := by
  simp [Builtin.append_, run_underlying ht, sizeOf, typeInfo, hi, Builtin.lenOf, Builtin.firstCells, loadCells, loadCellsFrom]

theorem grown_refl (w : World) (r : Option Nat) : w.grownBy w r := ⟨rfl, rfl, rfl, Nat.le_refl _, fun _ _ _ => rfl⟩

section
variable {P : Program} {T e : TypeId} {z : Value} {bytes : Nat}
/-- 'append(s, x...)': a whole slice behind one that the call owns. -/
theorem run_append_all (I : El P T e z bytes) (ty : TypeId) {base n : Nat} {v vx : Value} {xs ys : List Value} {w : World} (hown : w.ownsRow base e 1 v n xs) (hr : Reads w vx ys) (hone : ∀ u ∈ ys, u.oneCell' = true)
    (h63 : n + ys.length ≤ maxLen) (hb : (n + ys.length) * bytes ≤ 140737488355328) (hbase : base ≤ w.heap.size) :
    ∃ v' w', (Builtin.append_ #[T, T] ty #[v, vx]).run P w = .ok v' w' ∧ w'.ownsRow base e 1 v' (n + ys.length) (xs ++ ys) ∧ w.grownBy w' v.ownBlock := by
  obtain ⟨i, hi, hz, hsz, hby⟩ := I.info
  have hzs : z.cells.size = 1 := by rw [I.one]; rfl
  obtain ⟨a, cap, rfl, hc, hcell⟩ := hr
  cases a with
  | none =>
    have hys : ys = [] := by
      rcases Classical.em (ys = []) with h | h
      · exact h
      · obtain ⟨b, off, ha, _⟩ := hcell h
        cases ha
    subst hys
    rcases id hown.2 with ⟨rfl, rfl⟩ | ⟨g, cp, cur, rfl, hbg, hg, hnc, hcm, hcs, htake⟩
    · exact ⟨_, w, run_append_nilnil w I.under hi cap, by simpa using hown, grown_refl w _⟩
    · exact ⟨_, w, run_append_nilsrc w I.under hi g n cp cap hnc, by simpa using hown, grown_refl w _⟩
  | some p =>
    obtain ⟨v', w', h1, h2, h3, _⟩ := run_append_own (P := P) w base T ty e i z 1 bytes I.under hi hz hsz hby hzs (by decide) v n xs hown p ys.length cap ys (by simp)
      (fun j u hj => by
        have hjl : j < ys.length := by
          rcases Nat.lt_or_ge j ys.length with hl | hl
          · exact hl
          · rw [List.getElem?_eq_none hl] at hj; cases hj
        obtain ⟨b, off, ha, _, hh⟩ := hcell (by intro e; simp [e] at hjl)
        cases ha
        rw [Addr.add_lit, hh j hjl, hj]) hone h63 hb hbase
    exact ⟨v', w', h1, h2, h3⟩

end

end Go.Proofs.YtompfnnmiccipaaGreatDoor
/- A range over a function, for any body and any iterator, one that itself ranges over an iterator too: 'Gives': what an iterator's value gives; 'range_out', 'range_in': the statement, outermost and in a round. All at the wide fence. Over any program. -/
namespace Go.Proofs.YtompfnnmiccipaaGreatDoor
set_option linter.unusedVariables false
set_option linter.unusedSimpArgs false
open Go.RowKit Go.Shelf

/-- What a round keeps for the iterator: blocks from B on that the iterator laid (below m), and all that hold no cells. -/
structure Stays (B m : Nat) (W W' : World) : Prop where
  size : W.heap.size ≤ W'.heap.size
  same : ∀ (k : Nat) (o : Obj), B ≤ k → W.heap[k]? = some o → (k < m ∨ o.isCells = false) → W'.heap[k]? = some o

/-- What an iterator's own steps may turn: no more than that. -/
structure Turns (B m : Nat) (W W' : World) : Prop where
  os : W'.os = W.os
  tape : W'.tape = W.tape
  output : W'.output = W.output
  size : W.heap.size ≤ W'.heap.size
  same : ∀ (k : Nat) (o : Obj), W.heap[k]? = some o → (k < B ∨ (m ≤ k ∧ o.isCells = true)) → W'.heap[k]? = some o

def Abides {β : Type} (B m : Nat) (J : β → World → Prop) : Prop := ∀ s W W', J s W → Turns B m W W' → J s W'

section small
variable {B B' m n : Nat} {W W' W'' X Y : World}

theorem Stays.refl (B m : Nat) (W : World) : Stays B m W W := ⟨Nat.le_refl _, fun _ _ _ h _ => h⟩
theorem Stays.trans (h : Stays B m X W) (k : Stays B m W Y) : Stays B m X Y := ⟨Nat.le_trans h.size k.size, fun i o hb ho hc => k.same i o hb (h.same i o hb ho hc) hc⟩
theorem Stays.mono (h : Stays B m X W) (hb : B ≤ B') : Stays B' m X W := ⟨h.size, fun k o hk => h.same k o (Nat.le_trans hb hk)⟩
theorem Stays.of_below (h : Below W.heap.size W W') : Stays B m W W' :=
  ⟨h.size, fun k _ _ hk _ => (h.block k (Array.getElem?_eq_some_iff.1 hk).1).trans hk⟩
theorem Stays.alloc (h : Stays B m X W) (o : Obj) : Stays B m X (W.alloc o) := h.trans (.of_below ((Below.refl _ _).alloc (Nat.le_refl _) o))
theorem Stays.drew (h : Stays B m X W) : Stays B m X W.drew := h.trans (.of_below ((Below.refl _ _).drew))
/-- A store into a block of cells that lies ahead of B, or behind m. -/
theorem Stays.setCell (h : Stays B m X W) {p : Addr} {v : Value} (hv : W.cell? p = some v) (hp : p.block < B ∨ m ≤ p.block) (u : Value) : Stays B m X (W.setCell p u) := by
  refine h.trans ⟨by simp [World.setCell], fun k o hb hk hc => ?_⟩
  rw [Below.heap_setCell _ _ _ _ (fun e => ?_)]
  · exact hk
  · subst e
    obtain ⟨o', ho', hc'⟩ := cells_of_cell hv
    rw [hk] at ho'; cases ho'
    rcases hc with hc | hc
    · omega
    · rw [hc'] at hc; cases hc
theorem Stays.keeps (h : Stays B m X W) : KeepsFrom B X W := ⟨h.size, fun k o hb hk hc => h.same k o hb hk (.inr hc)⟩
theorem Stays.record {l : Nat} {r : Loop} (h : Stays B m X W) (hb : B ≤ l) (hl : X.heap[l]? = some (.loop r)) : W.heap[l]? = some (.loop r) := h.same l _ hb hl (.inr rfl)
/-- A turn of a block ahead of B. -/
theorem Stays.turn {l : Nat} {o : Obj} (hb : l < B) : Stays B m W (W.putObj l o) :=
  ⟨by simp, fun k _ hk hx _ => (World.putObj_heap_other (by omega)).trans hx⟩

theorem Stays.block (h : Stays B m X W) {a : Addr} {v : Value} (hv : X.cell? a = some v) (hb : B ≤ a.block) (hm : a.block < m) : W.heap[a.block]? = X.heap[a.block]? := by
  obtain ⟨o, ho, hc⟩ := cells_of_cell hv
  exact (h.same _ _ hb ho (.inl hm)).trans ho.symm
theorem Stays.cell (h : Stays B m X W) {a : Addr} {v : Value} (hv : X.cell? a = some v) (hb : B ≤ a.block) (hm : a.block < m) : W.cell? a = some v := (World.cell?_of_block (h.block hv hb hm)).trans hv
theorem Stays.frozen (h : Stays B m X W) {a : Addr} {v : Value} (hv : X.cell? a = some v) (hb : B ≤ a.block) (hm : a.block < m) : W.frozen? a = X.frozen? a := World.frozen?_of_block (h.block hv hb hm)

theorem Turns.refl (B m : Nat) (W : World) : Turns B m W W := ⟨rfl, rfl, rfl, Nat.le_refl _, fun _ _ h _ => h⟩
theorem Turns.trans (h : Turns B m X W) (k : Turns B m W Y) : Turns B m X Y :=
  ⟨k.os.trans h.os, k.tape.trans h.tape, k.output.trans h.output, Nat.le_trans h.size k.size, fun i o ho hc => k.same i o (h.same i o ho hc) hc⟩
theorem Turns.mono (h : Turns B' m X W) (hb : B ≤ B') : Turns B m X W := ⟨h.os, h.tape, h.output, h.size, fun k o hk hc => h.same k o hk (hc.imp (fun h => by omega) id)⟩
theorem Turns.of_below (h : Below W.heap.size W W') : Turns B m W W' :=
  ⟨h.os, h.tape, h.output, h.size, fun k _ hk _ => (h.block k (Array.getElem?_eq_some_iff.1 hk).1).trans hk⟩
theorem Turns.alloc (h : Turns B m X W) (o : Obj) : Turns B m X (W.alloc o) := h.trans (.of_below ((Below.refl _ _).alloc (Nat.le_refl _) o))
theorem Turns.drew (h : Turns B m X W) : Turns B m X W.drew := h.trans (.of_below ((Below.refl _ _).drew))
theorem Turns.setCell (h : Turns B m X W) {p : Addr} (hp : B ≤ p.block) (hm : p.block < m) (u : Value) : Turns B m X (W.setCell p u) :=
  h.trans ⟨rfl, rfl, rfl, by simp [World.setCell], fun k o hk hc => (Below.heap_setCell _ _ _ _ (by omega)).trans hk⟩
theorem Turns.putObj (h : Turns B m X W) {l : Nat} {o : Obj} (o' : Obj) (hb : B ≤ l) (hl : W.heap[l]? = some o) (ho : o.isCells = false) : Turns B m X (W.putObj l o') :=
  h.trans ⟨rfl, rfl, rfl, by simp, fun k x hk hc => by
    refine (World.putObj_heap_other (fun e => ?_)).trans hk
    subst e; rw [hl] at hk; cases hk; rcases hc with hc | ⟨_, hc⟩
    · omega
    · rw [ho] at hc; cases hc⟩
/-- A row of new cells, laid since, may be turned, too: what lay ahead is what counts. -/
theorem Turns.cell (h : Turns B m W W') {a : Addr} {v : Value} (hv : W.cell? a = some v) (hb : a.block < B ∨ m ≤ a.block) : W'.cell? a = some v := by
  obtain ⟨o, ho, hc⟩ := cells_of_cell hv
  refine (World.cell?_of_block ((h.same _ _ ho ?_).trans ho.symm)).trans hv
  rcases hb with hb | hb
  · exact .inl hb
  · exact .inr ⟨hb, hc⟩
theorem Turns.frozen (h : Turns B m W W') {a : Addr} {v : Value} (hv : W.cell? a = some v) (hb : a.block < B ∨ m ≤ a.block) : W'.frozen? a = W.frozen? a := by
  obtain ⟨o, ho, hc⟩ := cells_of_cell hv
  refine World.frozen?_of_block ((h.same _ _ ho ?_).trans ho.symm)
  rcases hb with hb | hb
  · exact .inl hb
  · exact .inr ⟨hb, hc⟩
theorem Turns.below (h : Turns B m W W') (hn : n ≤ B) (hs : n ≤ W.heap.size) : Below n W W' := ⟨h.os, h.tape, h.output, h.size, fun k hk => by
  have hlt : k < W.heap.size := by omega
  have ho := Array.getElem?_eq_getElem hlt
  exact (h.same k _ ho (.inl (by omega))).trans ho.symm⟩
/-- The rest of a world's blocks ahead of n stays, of cells just these. -/
theorem Below.alloc0 (w : World) (o : Obj) : Below w.heap.size w (w.alloc o) := (Below.refl _ _).alloc (Nat.le_refl _) o
end small

section abides
variable {β : Type} {B m : Nat}
theorem Abides.and {I J : β → World → Prop} (h : Abides B m I) (k : Abides B m J) : Abides B m (fun s W => I s W ∧ J s W) := fun s W W' hs ht => ⟨h s W W' hs.1 ht, k s W W' hs.2 ht⟩
theorem Abides.pure (p : β → Prop) : Abides B m (fun s (_ : World) => p s) := fun _ _ _ hs _ => hs
theorem Abides.below {n : Nat} {w₀ : World} (hn : n ≤ B) (hs : n ≤ w₀.heap.size) : Abides B m (fun (_ : β) W => Below n w₀ W) :=
  fun _ _ _ hs' ht => hs'.trans (ht.below hn (Nat.le_trans hs hs'.size))
theorem Abides.cell {b : Addr} (hb : b.block < B) (f : β → Value) : Abides B m (fun s W => W.cell? b = some (f s) ∧ W.frozen? b = false) :=
  fun _ _ _ hs ht => ⟨ht.cell hs.1 (.inl hb), (ht.frozen hs.1 (.inl hb)).trans hs.2⟩
theorem Abides.mono {B' : Nat} {I : β → World → Prop} (h : Abides B m I) (hb : B ≤ B') : Abides B' m I := fun s W W' hs ht => h s W W' hs (ht.mono hb)
theorem Abides.putObj {I : β → World → Prop} (h : Abides B m I) {s : β} {W : World} {l : Nat} {o : Obj} (o' : Obj) (hs : I s W) (hb : B ≤ l) (hl : W.heap[l]? = some o) (ho : o.isCells = false) : I s (W.putObj l o') :=
  h s W _ hs ((Turns.refl _ _ _).putObj o' hb hl ho)
theorem Abides.alloc {I : β → World → Prop} (h : Abides B m I) {s : β} {W : World} (o : Obj) (hs : I s W) : I s (W.alloc o) := h s W _ hs ((Turns.refl _ _ _).alloc o)
theorem Stays.of_grown {b : Nat} {W W' : World} (h : W.grownBy W' (some b)) (hb : b < B) : Stays B m W W' :=
  ⟨h.size, fun k o hk ho _ => (h.block k (Array.getElem?_eq_some_iff.1 ho).1 (by simp; omega)).trans ho⟩
end abides

/-- What an iterator reads between two rounds: these blocks lie as they lay. -/
structure Keeps (D : Nat → Prop) (W W' : World) : Prop where
  size : W.heap.size ≤ W'.heap.size
  same : ∀ k, D k → W'.heap[k]? = W.heap[k]?
section keeps
variable {D : Nat → Prop} {X W Y : World}
theorem Keeps.refl (D : Nat → Prop) (W : World) : Keeps D W W := ⟨Nat.le_refl _, fun _ _ => rfl⟩
theorem Keeps.trans (h : Keeps D X W) (k : Keeps D W Y) : Keeps D X Y := ⟨Nat.le_trans h.size k.size, fun i hi => (k.same i hi).trans (h.same i hi)⟩
theorem Keeps.of_below (hd : ∀ k, D k → k < W.heap.size) (h : Below W.heap.size W Y) : Keeps D W Y := ⟨h.size, fun k hk => h.block k (hd k hk)⟩
theorem Keeps.setCell (h : Keeps D X W) {p : Addr} (hp : ¬ D p.block) (u : Value) : Keeps D X (W.setCell p u) :=
  h.trans ⟨by simp [World.setCell], fun k hk => Below.heap_setCell _ _ _ _ (fun e => hp (e ▸ hk))⟩
theorem Keeps.putObj (h : Keeps D X W) {l : Nat} (hl : ¬ D l) (o : Obj) : Keeps D X (W.putObj l o) :=
  h.trans ⟨by simp, fun k hk => World.putObj_heap_other (fun e => hl (e ▸ hk))⟩
theorem Keeps.cell (h : Keeps D X W) {p : Addr} (hp : D p.block) : W.cell? p = X.cell? p := World.cell?_of_block (h.same _ hp)
theorem Keeps.mono {D' : Nat → Prop} (h : Keeps D X W) (hd : ∀ k, D' k → D k) : Keeps D' X W := ⟨h.size, fun k hk => h.same k (hd k hk)⟩
theorem Keeps.of_grown {D : Nat → Prop} {b : Nat} {W W' : World} (h : W.grownBy W' (some b)) (hd : ∀ k, D k → k < W.heap.size ∧ k ≠ b) : Keeps D W W' :=
  ⟨h.size, fun k hk => h.block k (hd k hk).1 (by simpa using (hd k hk).2)⟩
end keeps

/-- HOW THE BODY OF A ROUND MAY BE LEFT. -/
def roundP {α : Type} (B m : Nat) (D : Nat → Prop) (I : Nat → List α → World → Prop) (Ix : Code → Nat → List α → World → Prop) (xs : List α) (W : World) : Exit → Act → World → Prop
  | .normal, _, W' => Stays B m W W' ∧ Keeps D W W' ∧ I m xs W'
  | .ret, _, W' => Stays B m W W' ∧ Ix .ret m xs W'
  | .exit id, _, W' => Stays B m W W' ∧ Ix (.exit id) m xs W'
  | .goto t, _, W' => Stays B m W W' ∧ Ix (.goto t) m xs W'
  | .panic _, _, _ => False
  | .outgrown, _, _ => False

/-- A list begins as one of S does. -/
def Part {α : Type} (S : List α → Prop) (pre : List α) : Prop := ∃ xs, S xs ∧ pre <+: xs

/-- WHAT AN ITERATOR'S VALUE GIVES: one of the lists of S, or a beginning of one, where a round has said 'no more'. -/
def Gives {α : Type} (P : Program) (g : Nat) (lb : Array Value) (encs : α → Array Value) (D : Nat → Prop) (S : List α → Prop) (w : World) : Prop :=
  ∀ (l : Nat) (J Jx : Nat → List α → World → Prop) (W : World), Below w.heap.size w W → (∀ m, Abides W.heap.size m (J m)) → (∀ m, Abides W.heap.size m (Jx m)) →
    (∀ m pre x W1, W.heap.size ≤ m → J m pre W1 → Part S (pre ++ [x]) → YieldAt Fence.wide 3 P l (encs x) W1 fun e W' =>
      Stays W.heap.size m W1 W' ∧ ((e = .returned (.bool true) ∧ J m (pre ++ [x]) W' ∧ Keeps D W1 W') ∨ (e = .returned (.bool false) ∧ Jx m (pre ++ [x]) W'))) →
    (∀ m, J m [] W) →
    Calls P g (#[.func (.yield l) #[] #[]] ++ lb) W fun e W' => (∃ v, e = .returned v) ∧ ((∃ m xs, S xs ∧ J m xs W') ∨ (∃ m pre, Part S pre ∧ Jx m pre W'))

theorem Gives.later {α : Type} {P : Program} {g : Nat} {lb : Array Value} {encs : α → Array Value} {D : Nat → Prop} {S : List α → Prop} {w w' : World}
    (h : Gives P g lb encs D S w) (hb : Below w.heap.size w w') : Gives P g lb encs D S w' :=
  fun l J Jx W hW hJ hJx hY h0 => h l J Jx W (hb.trans (hW.mono hb.size)) hJ hJx hY h0

section core
variable {α : Type} {P : Program}

theorem core {l B d gf : Nat} {D : Nat → Prop} {fn : FuncId} {tm : Array Value} {ps : Array Tmp} {assign body : Code} {lb : Array Value} {encs : α → Array Value} {S : List α → Prop} {w0 W1 : World}
    (hseq : Gives P gf lb encs D S w0) (hb : Below w0.heap.size w0 W1)
    (hl : W1.heap[l]? = some (.loop { state := .ready, pending := none, fn, tmps := tm, params := ps, assign, body, defers := d }))
    (hBl : B ≤ l) (hn : ∀ k, D k → k < l) (hps : ∀ x, (encs x).size = ps.size)
    (I : Nat → List α → World → Prop) (Ix : Code → Nat → List α → World → Prop) (hI : ∀ m, Abides B m (I m)) (hIx : ∀ c m, Abides B m (Ix c m)) (h0 : ∀ m, I m [] W1)
    (Ax : α → Act → World → Prop) (hAx : ∀ x a', OwnFrom B (fun (_ : Unit) W => Ax x a' W))
    (hassign : ∀ m pre x W (K : Act → World → Prop), W1.heap.size ≤ m → I m pre W → (∀ a' W', Stays B m W W' → Keeps D W W' → I m pre W' → Ax x a' W' → K a' W') →
      assign.wpIn (Fence.wide.inRound l) 3 P (Exit.then K (fun _ _ _ => False)) { tmps := (ps.zip (encs x)).foldl (fun t (p, v) => t.setIfInBounds p v) tm, defers := [] } W)
    (hbody : ∀ m pre x a' W, W1.heap.size ≤ m → (∃ r, W.heap[l]? = some (.loop r)) → I m pre W → Ax x a' W → Part S (pre ++ [x]) →
      body.wpIn (Fence.wide.inRound l) 3 P (roundP B m D I Ix (pre ++ [x]) W) a' W) :
    Calls P gf (#[.func (.yield l) #[] #[]] ++ lb) W1 (fun e W2 => (∃ v, e = .returned v) ∧ ∃ jump W3, (Instr.endLoop l).run P W2 = .ok jump W3 ∧
      ((jump = none ∧ ∃ m xs, S xs ∧ I m xs W3) ∨ (∃ c m pre, jump = some c ∧ Part S pre ∧ Ix c m pre W3))) := by
  have hlt1 : l < W1.heap.size := (Array.getElem?_eq_some_iff.1 hl).1
  obtain ⟨rec, hrec⟩ : ∃ rec : LoopState → Option Code → Loop, rec = fun st pe => { state := st, pending := pe, fn, tmps := tm, params := ps, assign, body, defers := d } := ⟨_, rfl⟩
  have hl1 : W1.heap[l]? = some (.loop (rec .ready none)) := by rw [hrec]; exact hl
  refine (hseq l (fun m pre W => I m pre W ∧ W.heap[l]? = some (.loop (rec .ready none)))
    (fun m pre W => ∃ c, Ix c m pre W ∧ W.heap[l]? = some (.loop (rec .done (some c)))) W1 hb
    (fun m s X Y hs ht => ⟨hI m s X Y hs.1 (ht.mono (by omega)), ht.same l _ hs.2 (.inl hlt1)⟩)
    (fun m s X Y hs ht => by obtain ⟨c, hc, hx⟩ := hs; exact ⟨c, hIx c m s X Y hc (ht.mono (by omega)), ht.same l _ hx (.inl hlt1)⟩)
    ?_ (fun m => ⟨h0 m, hl1⟩)).mono ?_
  · rintro m pre x W hm ⟨hi, hlw⟩ hpart
    have hy := run_yield (P := P) (args := encs x) hlw (by rw [hrec]; exact hps x)
    rw [hrec] at hy
    refine ⟨fn, _, assign, body, hy, roundIn_of_wpIn trivial (hassign m pre x W _ hm hi ?_)⟩
    intro a' Wa hst hbe hia hax
    have hla := hst.record hBl hlw
    have hlta : l < Wa.heap.size := (Array.getElem?_eq_some_iff.1 hla).1
    obtain ⟨Wb, hWb⟩ : ∃ Wb, Wa.putObj l (.loop { rec .ready none with state := .busy }) = Wb := ⟨_, rfl⟩
    refine ⟨Wb, by rw [← hWb]; exact run_beginRound hla (by rw [hrec]), ?_⟩
    have hlb : Wb.heap[l]? = some (.loop { rec .ready none with state := .busy }) := by rw [← hWb]; exact World.putObj_heap_same hlta
    have hib : I m pre Wb := by rw [← hWb]; exact (hI m).putObj _ hia hBl hla rfl
    have haxb : Ax x a' Wb := by rw [← hWb]; exact (hAx x a').putObj (s := ()) _ hax hBl hla rfl
    have hsb : Stays W1.heap.size m W Wb := by rw [← hWb]; exact (hst.mono (by omega)).trans (.turn hlt1)
    have hDl : ¬ D l := fun h => Nat.lt_irrefl _ (hn l h)
    have hbb : Keeps D W Wb := by rw [← hWb]; exact hbe.putObj hDl _
    refine wpIn_mono (hbody m pre x a' Wb hm ⟨_, hlb⟩ hib haxb hpart) ?_
    have fin : ∀ (jump : Option Code) (W3 : World), Stays B m Wb W3 → ∃ W4, W4 = W3.putObj l (.loop (rec (if jump.isNone then .ready else .done) jump)) ∧
        (Instr.endRound l jump).run P W3 = .ok (.bool jump.isNone) W4 ∧ W4.heap[l]? = some (.loop (rec (if jump.isNone then .ready else .done) jump)) ∧
        W3.heap[l]? = some (.loop { rec .ready none with state := .busy }) ∧ Stays W1.heap.size m W W4 := fun jump W3 hs3 => by
      have hl3 := hs3.record hBl hlb
      have hr := run_endRound (P := P) jump hl3
      rw [hrec] at hr ⊢
      refine ⟨_, rfl, hr, World.putObj_heap_same (Array.getElem?_eq_some_iff.1 hl3).1, by rw [hrec] at hl3; exact hl3, ?_⟩
      exact (hsb.trans (hs3.mono (by omega))).trans (.turn hlt1)
    rintro e a3 W3 hp
    cases e with
    | normal =>
      obtain ⟨hs3, hb3, hi3⟩ := hp
      obtain ⟨W4, e4, hr, hl4, hl3, hs4⟩ := fin none W3 hs3
      refine ⟨_, W4, hr, hs4, .inl ⟨rfl, ⟨?_, hl4⟩, ?_⟩⟩
      · rw [e4]; exact (hI m).putObj _ hi3 hBl hl3 rfl
      · rw [e4]; exact (hbb.trans hb3).putObj hDl _
    | ret =>
      obtain ⟨hs3, hi3⟩ := hp
      obtain ⟨W4, e4, hr, hl4, hl3, hs4⟩ := fin (some .ret) W3 hs3
      exact ⟨_, W4, hr, hs4, .inr ⟨rfl, .ret, by rw [e4]; exact (hIx _ m).putObj _ hi3 hBl hl3 rfl, hl4⟩⟩
    | exit id =>
      obtain ⟨hs3, hi3⟩ := hp
      obtain ⟨W4, e4, hr, hl4, hl3, hs4⟩ := fin (some (.exit id)) W3 hs3
      exact ⟨_, W4, hr, hs4, .inr ⟨rfl, .exit id, by rw [e4]; exact (hIx _ m).putObj _ hi3 hBl hl3 rfl, hl4⟩⟩
    | goto t =>
      obtain ⟨hs3, hi3⟩ := hp
      obtain ⟨W4, e4, hr, hl4, hl3, hs4⟩ := fin (some (.goto t)) W3 hs3
      exact ⟨_, W4, hr, hs4, .inr ⟨rfl, .goto t, by rw [e4]; exact (hIx _ m).putObj _ hi3 hBl hl3 rfl, hl4⟩⟩
    | panic ch => exact hp.elim
    | outgrown => exact hp.elim
  · rintro e W2 ⟨hv, (⟨m, xs, hS, hi, hlw⟩ | ⟨m, pre, hp, c, hi, hlw⟩)⟩
    · have hr := run_endLoop (P := P) hlw (by rw [hrec]; simp)
      refine ⟨hv, _, _, hr, .inl ⟨by rw [hrec], m, xs, hS, (hI m).putObj _ hi hBl hlw rfl⟩⟩
    · have hr := run_endLoop (P := P) hlw (by rw [hrec]; simp)
      refine ⟨hv, _, _, hr, .inr ⟨c, m, pre, by rw [hrec], hp, (hIx c m).putObj _ hi hBl hlw rfl⟩⟩

/-- THE STATEMENT, OUTERMOST. D is the block of the rounds' deferred calls: at the function's return it is taken once more. -/
theorem range_out {gf : Nat} {D : Nat → Prop} {g : Operand} {ps : Array Tmp} {assign body : Code} {Q : Exit → Act → World → Prop} {a : Act} {w w0 : World} {lb : Array Value} {encs : α → Array Value} {S : List α → Prop}
    (hg : a.eval g = .func (.func gf) #[] lb) (eg : ∀ args w, (callFunc gf args).run P w = .ok (.enter gf args) w)
    (hseq : Gives P gf lb encs D S w0) (hb : Below w0.heap.size w0 w) (hn : ∀ k, D k → k < w.heap.size) (hps : ∀ x, (encs x).size = ps.size)
    (I : Nat → List α → World → Prop) (Ix : Code → Nat → List α → World → Prop) (hI : ∀ m, Abides w.heap.size m (I m)) (hIx : ∀ c m, Abides w.heap.size m (Ix c m)) (h0 : ∀ m, I m [] w)
    (Ax : α → Act → World → Prop) (hAx : ∀ x a', OwnFrom w.heap.size (fun (_ : Unit) W => Ax x a' W))
    (hassign : ∀ (l m : Nat) pre x W (K : Act → World → Prop), w.heap.size ≤ m → I m pre W → (∀ a' W', Stays w.heap.size m W W' → Keeps D W W' → I m pre W' → Ax x a' W' → K a' W') →
      assign.wpIn (Fence.wide.inRound l) 3 P (Exit.then K (fun _ _ _ => False)) { tmps := (ps.zip (encs x)).foldl (fun t (p, v) => t.setIfInBounds p v) a.tmps, defers := [] } W)
    (hbody : ∀ (l m : Nat) pre x a' W, w.heap.size ≤ m → w.heap.size ≤ l → (∃ r, W.heap[l]? = some (.loop r)) → I m pre W → Ax x a' W → Part S (pre ++ [x]) →
      body.wpIn (Fence.wide.inRound l) 3 P (roundP w.heap.size m D I Ix (pre ++ [x]) W) a' W)
    (hdone : ∀ (E m : Nat) xs W, w.heap.size ≤ E → S xs → I m xs W → W.heap[E]? = some (.deferred (some [])) → Q .normal { a with defers := { target := .collected E, args := #[] } :: a.defers } W)
    (hstop : ∀ (E : Nat) (c : Code) (m : Nat) pre W, w.heap.size ≤ E → Part S pre → Ix c m pre W → W.heap[E]? = some (.deferred (some [])) →
      c.wpIn Fence.wide 3 P Q { a with defers := { target := .collected E, args := #[] } :: a.defers } W) :
    (Code.rangeFunc g ps assign body).wpIn Fence.wide 3 P Q a w := by
  refine wpIn_rangeFunc ?_
  intro fn hfn
  obtain ⟨W1, hW1⟩ : ∃ W1, (w.alloc (.deferred (some []))).alloc (.loop { state := .ready, pending := none, fn, tmps := a.tmps, params := ps, assign, body, defers := w.heap.size }) = W1 := ⟨_, rfl⟩
  have hL1 : W1.heap[w.heap.size + 1]? = some (.loop { state := .ready, pending := none, fn, tmps := a.tmps, params := ps, assign, body, defers := w.heap.size }) := by
    rw [← hW1]; have := World.alloc_heap_new (w.alloc (.deferred (some []))) (.loop { state := .ready, pending := none, fn, tmps := a.tmps, params := ps, assign, body, defers := w.heap.size }); rwa [World.size_alloc] at this
  have hK1 : W1.heap[w.heap.size]? = some (.deferred (some [])) := by
    rw [← hW1]; exact (Below.heap_alloc _ _ _ (by simp)).trans (World.alloc_heap_new w _)
  have hbw : Below w.heap.size w W1 := by rw [← hW1]; exact ((Below.refl _ w).alloc (Nat.le_refl _) _).alloc (by simp) _
  refine ⟨w.heap.size + 1, [{ target := .collected w.heap.size, args := #[] }], W1, { target := .fn (.func gf) lb, args := #[.func (.yield (w.heap.size + 1)) #[] #[]] }, W1, gf,
    #[.func (.yield (w.heap.size + 1)) #[] #[]] ++ lb, W1, ?_, ?_, fun _ _ => trivial, ?_, fun h => (by simp [Fence.wide] at h), ?_⟩
  · rw [← hW1]; exact run_enterLoop_outer _ _ _ _ _
  · simp only [resolve, hg]
    simp [go_sem]
  · simp [invoke, go_sem, eg]
  · refine callsIn_wide.2 ((core (B := w.heap.size + 1) hseq (hb.trans (hbw.mono hb.size)) hL1 (Nat.le_refl _) (fun k hk => Nat.lt_succ_of_lt (hn k hk)) hps
      (fun m pre W => I m pre W ∧ W.heap[w.heap.size]? = some (.deferred (some []))) (fun c m pre W => Ix c m pre W ∧ W.heap[w.heap.size]? = some (.deferred (some [])))
      (fun m s X Y hs ht => ⟨hI m s X Y hs.1 (ht.mono (by omega)), ht.same _ _ hs.2 (.inl (by omega))⟩)
      (fun c m s X Y hs ht => ⟨hIx c m s X Y hs.1 (ht.mono (by omega)), ht.same _ _ hs.2 (.inl (by omega))⟩)
      (fun m => ⟨hI m _ _ _ (h0 m) (.of_below hbw), hK1⟩) Ax (fun x a' s X Y row hs hg' hr => hAx x a' s X Y row hs hg' (fun r e => ⟨by have := (hr r e).1; omega, (hr r e).2⟩))
      (fun m pre x W K hm hi hK => hassign _ m pre x W K (Nat.le_trans hbw.size hm) hi.1 (fun a' W' hs hbe hi' hax => hK a' W' (hs.mono (by omega)) hbe ⟨hi', hs.same _ _ (Nat.le_refl _) hi.2 (.inr rfl)⟩ hax))
      (fun m pre x a' W hm hr hi hax hp => wpIn_mono (hbody _ m pre x a' W (Nat.le_trans hbw.size hm) (by omega) hr hi.1 hax hp) ?_)).mono ?_)
    · intro e a3 W3 h3
      have hD : ∀ {W' : World}, Stays w.heap.size m W W' → W'.heap[w.heap.size]? = some (.deferred (some [])) := fun hs => hs.same _ _ (Nat.le_refl _) hi.2 (.inr rfl)
      cases e with
      | normal => exact ⟨h3.1.mono (by omega), h3.2.1, h3.2.2, hD h3.1⟩
      | ret => exact ⟨h3.1.mono (by omega), h3.2, hD h3.1⟩
      | exit id => exact ⟨h3.1.mono (by omega), h3.2, hD h3.1⟩
      | goto t => exact ⟨h3.1.mono (by omega), h3.2, hD h3.1⟩
      | panic ch => exact h3
      | outgrown => exact h3
    · rintro e W2 ⟨⟨v, rfl⟩, jump, W3, hr, (⟨rfl, m, xs, hS, hi, hD⟩ | ⟨c, m, pre, rfl, hp, hi, hD⟩)⟩
      · exact ⟨none, W3, hr, hdone _ m xs W3 (Nat.le_refl _) hS hi hD⟩
      · exact ⟨some c, W3, hr, hstop _ c m pre W3 (Nat.le_refl _) hp hi hD⟩

/-- THE STATEMENT, OUTERMOST, WHERE A ROUND LEAVES BY 'break' AT MOST. -/
theorem range_break {id gf : Nat} {D : Nat → Prop} {g : Operand} {ps : Array Tmp} {assign body : Code} {Q : Exit → Act → World → Prop} {a : Act} {w w0 : World} {lb : Array Value} {encs : α → Array Value} {S : List α → Prop}
    (hg : a.eval g = .func (.func gf) #[] lb) (eg : ∀ args w, (callFunc gf args).run P w = .ok (.enter gf args) w)
    (hseq : Gives P gf lb encs D S w0) (hb : Below w0.heap.size w0 w) (hn : ∀ k, D k → k < w.heap.size) (hps : ∀ x, (encs x).size = ps.size)
    (I Ix : Nat → List α → World → Prop) (A : World → Prop) (hI : ∀ m, Abides w.heap.size m (I m)) (hIx : ∀ m, Abides w.heap.size m (Ix m)) (h0 : ∀ m, I m [] w)
    (Ax : α → Act → World → Prop) (hAx : ∀ x a', OwnFrom w.heap.size (fun (_ : Unit) W => Ax x a' W))
    (hIA : ∀ m xs W, S xs → I m xs W → A W) (hIxA : ∀ m pre W, Part S pre → Ix m pre W → A W)
    (hassign : ∀ (l m : Nat) pre x W (K : Act → World → Prop), w.heap.size ≤ m → I m pre W → (∀ a' W', Stays w.heap.size m W W' → Keeps D W W' → I m pre W' → Ax x a' W' → K a' W') →
      assign.wpIn (Fence.wide.inRound l) 3 P (Exit.then K (fun _ _ _ => False)) { tmps := (ps.zip (encs x)).foldl (fun t (p, v) => t.setIfInBounds p v) a.tmps, defers := [] } W)
    (hbody : ∀ (l m : Nat) pre x a' W, w.heap.size ≤ m → w.heap.size ≤ l → (∃ r, W.heap[l]? = some (.loop r)) → I m pre W → Ax x a' W → Part S (pre ++ [x]) →
      body.wpIn (Fence.wide.inRound l) 3 P (roundP w.heap.size m D I (fun c m pre W => c = .exit id ∧ Ix m pre W) (pre ++ [x]) W) a' W)
    (hafter : ∀ (E : Nat) W, w.heap.size ≤ E → A W → W.heap[E]? = some (.deferred (some [])) → Q .normal { a with defers := { target := .collected E, args := #[] } :: a.defers } W) :
    (Code.rangeFunc g ps assign body).wpIn Fence.wide 3 P (Exit.inBlock id Q) a w :=
  range_out hg eg hseq hb hn hps I (fun c m pre W => c = .exit id ∧ Ix m pre W) hI (fun c m => (Abides.pure (fun _ => c = .exit id)).and (hIx m)) h0 Ax hAx hassign hbody
    (fun E m xs W hE hS hi hK => hafter E W hE (hIA m xs W hS hi) hK)
    (fun E c m pre W hE hp hi hK => by
      obtain ⟨rfl, hi⟩ := hi
      refine wpIn_exit ?_
      have := hafter E W hE (hIxA m pre W hp hi) hK
      simpa [Exit.inBlock] using this)

end core

/-- Nothing panics. -/
def calmP (Q : Exit → Act → World → Prop) : Exit → Act → World → Prop
  | .panic _, _, _ => False
  | .outgrown, _, _ => False
  | .normal, a, w => Q .normal a w
  | .ret, a, w => Q .ret a w
  | .exit id, a, w => Q (.exit id) a w
  | .goto l, a, w => Q (.goto l) a w

/-- A function whose body ranges over functions, from its body's walk. -/
theorem calls_marks {P : Program} {f : FuncId} {fn : Func} {c : Code} {args : Array Value} {w : World} {R : Ending → World → Prop}
    (hf : P.funcs[f]? = some fn) (hb : fn.body = some c)
    (h : c.wp P (calmP (bodyPostM Fence.wide 3 P fn R)) { tmps := args ++ Array.replicate (fn.ntmps - args.size) undef, defers := [] } w) : Calls P f args w R :=
  (callsIn_wide (n := 3)).1 (callsIn_of_wp_marks hf hb trivial (wpIn_mono (wpIn_wide.2 h) fun e a w hq => by cases e <;> first | exact hq | exact hq.elim) rfl)

end Go.Proofs.YtompfnnmiccipaaGreatDoor
/- A walk by explicit steps: frames of which some slots are known ('Fr'), in the wide fence, in a round or not. Over any program. -/
namespace Go.Proofs.YtompfnnmiccipaaGreatDoor
set_option linter.unusedVariables false
set_option linter.unusedSimpArgs false
open Go.RowKit Go.Shelf

/-- The wide fence, in a round or not. -/
abbrev Wr (r : Option Nat) : Fence := { Fence.wide with round := r }
theorem callsWr {r : Option Nat} {n : Nat} {P : Program} {f : FuncId} {args : Array Value} {w : World} {R : Ending → World → Prop} (h : Calls P f args w R) : CallsIn (Wr r) n P f args w R := by
  cases r with
  | none => exact callsIn_wide.2 h
  | some l => exact CallsIn.inRound l (callsIn_wide.2 h)

abbrev Slots := Nat → Option Value
def up (M : Slots) (d : Nat) (v : Value) : Slots := fun s => match Nat.beq s d with | true => some v | false => M s
def sl : List (Nat × Value) → Slots
  | [], _ => none
  | (t, v) :: l, s => match Nat.beq s t with | true => some v | false => sl l s
/-- What is known of a frame: its size, its deferred calls, some slots. -/
structure Fr (n : Nat) (D : List Deferred) (M : Slots) (a : Act) : Prop where
  size : a.tmps.size = n
  defers : a.defers = D
  get : ∀ s v, M s = some v → a.tmps.getD s undef = v
def evM (M : Slots) : Operand → Option Value
  | .tmp s => M s
  | .const v => some v
  | .global g => some (.pointer (some ⟨g, 0, none⟩))
  | .func f => some (.func (.func f) #[] #[])
def dfB : Op → Bool
  | .defer _ => true
  | _ => false
def wantB (ops : Array Oper) (M : Slots) : Option (Nat × Bool) → Option Bool
  | none => some true
  | some (j, b) => match ((ops[j]?).bind (·.dst)).bind M with
    | some (.bool c) => some (c == b)
    | some (.tuple _) => some false
    | _ => none
def putM (M : Slots) : Option Tmp → Value → Slots
  | some d, v => up M d v
  | none, _ => M
def dstB (n : Nat) : Option Tmp → Bool
  | some d => Nat.blt d n
  | none => true

theorem beq_ne {s d : Nat} (e : s ≠ d) : Nat.beq s d = false := by
  cases hb : Nat.beq s d with
  | false => rfl
  | true => exact absurd (Nat.eq_of_beq_eq_true hb) e

section
variable {a : Act} {n : Nat} {D : List Deferred} {M : Slots}
theorem Fr.put (F : Fr n D M a) (d : Option Tmp) (v : Value) (h : dstB n d = true) : Fr n D (putM M d v) (a.put d v) := by
  cases d with
  | none => exact F
  | some d =>
    have hd : d < n := by simpa [dstB] using h
    refine ⟨by simp [Act.put, F.size], F.defers, fun s u hs => ?_⟩
    simp only [putM, up] at hs
    by_cases e : s = d
    · subst e
      rw [Nat.beq_refl] at hs
      cases hs
      simp [Act.put, Array.getD_eq_getD_getElem?, F.size, hd]
    · rw [beq_ne e] at hs
      rw [← F.get s u hs]
      simp [Act.put, Array.getD_eq_getD_getElem?, Array.getElem?_setIfInBounds, Ne.symm e]
theorem Fr.ev (F : Fr n D M a) {x : Operand} {v : Value} (h : evM M x = some v) : a.eval x = v := by
  cases x with
  | tmp s => exact F.get s v h
  | const u => cases h; rfl
  | global g => cases h; rfl
  | func f => cases h; rfl
theorem Fr.want (F : Fr n D M a) {ops : Array Oper} {o : Oper} {t : Bool} (h : wantB ops M o.guard = some t) : Region.wanted o (yielded ops a.tmps) = t := by
  unfold Region.wanted
  cases hg : o.guard with
  | none => rw [hg] at h; simpa [wantB] using h
  | some p =>
    obtain ⟨j, b⟩ := p
    rw [hg] at h
    simp only [wantB] at h
    cases hd : (ops[j]?).bind (·.dst) with
    | none => rw [hd] at h; cases h
    | some d =>
      rw [hd] at h
      simp only [Option.bind_some] at h
      cases hm : M d with
      | none => rw [hm] at h; cases h
      | some v =>
        rw [hm] at h
        cases v <;> try (cases h; done)
        case tuple vs =>
          simp only [Option.some.injEq] at h
          subst h
          have hget := F.get d _ hm
          have hy : yielded ops a.tmps j = none := by
            unfold yielded
            rw [hd, Option.bind_some]
            rw [Array.getD_eq_getD_getElem?] at hget
            cases ht : a.tmps[d]? with
            | none => rfl
            | some u => rw [ht] at hget; simp only [Option.getD_some] at hget; subst hget; rfl
          simp [hy]
        rename_i c
        simp at h
        have hget := F.get d _ hm
        have hlt : d < a.tmps.size := by
          rcases Nat.lt_or_ge d a.tmps.size with hl | hl
          · exact hl
          · rw [Array.getD_eq_getD_getElem?, Array.getElem?_eq_none hl] at hget; cases hget
        rw [Array.getD_eq_getD_getElem?, Array.getElem?_eq_getElem hlt] at hget
        simp only [Option.getD_some] at hget
        have hy : yielded ops a.tmps j = some c := by
          unfold yielded
          rw [hd]
          simp only [Option.bind_some, Array.getElem?_eq_getElem hlt, hget]
        show (yielded ops a.tmps j == some b) = t
        rw [hy, ← h]
        rfl
def Fits (M : Slots) : List (Nat × Value) → Prop
  | [] => True
  | (s, v) :: l => M s = some v ∧ Fits M l
theorem Fits.sub : ∀ {L : List (Nat × Value)}, Fits M L → ∀ s v, sl L s = some v → M s = some v
  | [], _, s, v, h => by cases h
  | (t, u) :: l, hf, s, v, h => by
    simp only [sl] at h
    by_cases e : s = t
    · subst e; rw [Nat.beq_refl] at h; cases h; exact hf.1
    · rw [beq_ne e] at h; exact Fits.sub hf.2 s v h
theorem Fr.keep (F : Fr n D M a) (L : List (Nat × Value)) (h : Fits M L) : Fr n D (sl L) a := ⟨F.size, F.defers, fun s v hs => F.get s v (h.sub s v hs)⟩
def lg : List Value → Slots
  | [], _ => none
  | v :: _, 0 => some v
  | _ :: l, s + 1 => lg l s
def argM (args : Array Value) : Slots := lg args.toList
theorem lg_eq : ∀ (l : List Value) (s : Nat), lg l s = l[s]?
  | [], _ => by simp [lg]
  | v :: l, 0 => rfl
  | v :: l, s + 1 => by simp [lg, lg_eq l s]
theorem Fr.start (args : Array Value) (n : Nat) (hn : args.size ≤ n) : Fr n [] (argM args) { tmps := args ++ Array.replicate (n - args.size) undef, defers := [] } := by
  refine ⟨by simp; omega, rfl, fun s v h => ?_⟩
  have h : args[s]? = some v := by simpa [argM, lg_eq] using h
  obtain ⟨hs, hv⟩ := Array.getElem?_eq_some_iff.1 h
  simp [Array.getD_eq_getD_getElem?, Array.getElem?_append, hs, hv]
end

section
variable {P : Program} {ops : Array Oper} {w w' : World} {o : Oper} {rest : List Oper} {n : Nat} {D : List Deferred} {M : Slots} {v : Value} {r : Option Nat} {Q : Exit → Act → World → Prop}

/-- What an operation does in frames of which this is known. -/
def Runs (P : Program) (n : Nat) (D : List Deferred) (M : Slots) (o : Oper) (w : World) (x : Next) (w' : World) : Prop := ∀ a, Fr n D M a → (execOp a.eval o).run P w = .ok x w'
structure CC (r : Option Nat) (P : Program) (Q : Exit → Act → World → Prop) (n : Nat) (D : List Deferred) (M : Slots) (c : Code) (w : World) : Prop where
  h : ∀ a, Fr n D M a → c.wpIn (Wr r) 3 P Q a w
structure LL (r : Option Nat) (P : Program) (ops : Array Oper) (Q : Exit → Act → World → Prop) (n : Nat) (D : List Deferred) (M : Slots) (l : List Oper) (w : World) : Prop where
  h : ∀ a, Fr n D M a → wpListIn (Wr r) 3 P ops Q l a w
structure SS (P : Program) (ops : Array Oper) (w : World) (R : Act → Prop) (n : Nat) (D : List Deferred) (M : Slots) (l : List Oper) : Prop where
  h : ∀ a, Fr n D M a → wpStill P ops w R l a
structure EE (Q : Exit → Act → World → Prop) (n : Nat) (D : List Deferred) (M : Slots) (e : Exit) (w : World) : Prop where
  h : ∀ a, Fr n D M a → Q e a w

theorem about_wr (a : Act) : ∀ f, o.about P w a.eval = some f → (Wr r).fn f := fun _ _ => trivial
theorem wpIn_of_run {a : Act} {K : Act → World → Prop} (hdf : dfB o.op = false) {x : Next} (h : (execOp a.eval o).run P w = .ok x w') (k : o.uponIn (Wr r) 3 P a K Q (.ok x w')) : o.wpIn (Wr r) 3 P a w K Q := by
  refine ⟨about_wr a, ?_⟩
  rw [Oper.semAt_eq _ _ _ (by intro c hc; rw [hc] at hdf; cases hdf), h]
  exact k

theorem LL.val (hr : Runs P n D M o w (.value v) w') (hd : dstB n o.dst = true) (hdf : dfB o.op = false) (hg : wantB ops M o.guard = some true) (k : LL r P ops Q n D (putM M o.dst v) rest w') : LL r P ops Q n D M (o :: rest) w := LL.mk fun a F => by
  refine wpListIn_step fun K hK => ?_
  rw [if_pos (F.want hg)]
  exact wpIn_of_run hdf (hr a F) (hK _ _ (k.h _ (F.put _ _ hd)))
theorem LL.unit (hr : Runs P n D M o w .skip w') (hd : o.dst = none) (hdf : dfB o.op = false) (hg : wantB ops M o.guard = some true) (k : LL r P ops Q n D M rest w') : LL r P ops Q n D M (o :: rest) w := LL.mk fun a F => by
  refine wpListIn_step fun K hK => ?_
  rw [if_pos (F.want hg)]
  refine wpIn_of_run hdf (hr a F) ?_
  show K (a.put o.dst undef) w'
  rw [hd]
  exact hK _ _ (k.h _ F)
theorem LL.skip (hd : dstB n o.dst = true) (hg : wantB ops M o.guard = some false) (k : LL r P ops Q n D (putM M o.dst undef) rest w) : LL r P ops Q n D M (o :: rest) w := LL.mk fun a F => by
  refine wpListIn_step fun K hK => ?_
  rw [if_neg (by rw [F.want hg]; simp)]
  exact ⟨about_wr a, hK _ _ (k.h _ (F.put _ _ hd))⟩
theorem LL.call {f : FuncId} {args : Array Value} {R : Ending → World → Prop} (hr : Runs P n D M o w (.enter f args) w) (hd : dstB n o.dst = true) (hdf : dfB o.op = false) (hg : wantB ops M o.guard = some true) (hc : Calls P f args w R)
    (k : ∀ e w', R e w' → ∃ v, e = .returned v ∧ LL r P ops Q n D (putM M o.dst v) rest w') : LL r P ops Q n D M (o :: rest) w := LL.mk fun a F => by
  refine wpListIn_step fun K hK => ?_
  rw [if_pos (F.want hg)]
  refine wpIn_of_run hdf (hr a F) ⟨fun h => (by cases h), callsWr (hc.mono fun e w' hR => ?_)⟩
  obtain ⟨v, rfl, hk⟩ := k e w' hR
  exact hK _ _ (hk.h _ (F.put _ _ hd))
/-- The end of a region, where the code goes on. -/
theorem LL.nil (k : EE Q n D M .normal w) : LL r P ops Q n D M [] w := LL.mk fun a F => k.h a F
theorem LL.nilS {y : Code} (k : CC r P Q n D M y w) : LL r P ops (Exit.then (y.wpIn (Wr r) 3 P Q) Q) n D M [] w := LL.mk fun a F => k.h a F

theorem SS.val {R : Act → Prop} (hr : Runs P n D M o w (.value v) w) (hd : dstB n o.dst = true) (hg : wantB ops M o.guard = some true) (k : SS P ops w R n D (putM M o.dst v) rest) : SS P ops w R n D M (o :: rest) := SS.mk fun a F => by
  refine wpStill_step fun K hK => ?_
  rw [if_pos (F.want hg)]
  unfold Oper.still
  rw [hr a F]
  exact ⟨rfl, hK _ (k.h _ (F.put _ _ hd))⟩
theorem SS.skip {R : Act → Prop} (hd : dstB n o.dst = true) (hg : wantB ops M o.guard = some false) (k : SS P ops w R n D (putM M o.dst undef) rest) : SS P ops w R n D M (o :: rest) := SS.mk fun a F => by
  refine wpStill_step fun K hK => ?_
  rw [if_neg (by rw [F.want hg]; simp)]
  exact hK _ (k.h _ (F.put _ _ hd))
theorem SS.call {R : Act → Prop} {f : FuncId} {args : Array Value} (hr : Runs P n D M o w (.enter f args) w) (hd : dstB n o.dst = true) (hg : wantB ops M o.guard = some true) (hc : Calls P f args w fun e w' => e = .returned v ∧ w = w') (k : SS P ops w R n D (putM M o.dst v) rest) : SS P ops w R n D M (o :: rest) := SS.mk fun a F => by
  refine wpStill_step fun K hK => ?_
  rw [if_pos (F.want hg)]
  unfold Oper.still
  rw [hr a F]
  exact ⟨rfl, v, hc.mono fun _ _ h => ⟨h.1, h.2.symm⟩, hK _ (k.h _ (F.put _ _ hd))⟩
theorem SS.nil {l : List Oper} (k : LL r P ops Q n D M l w) : SS P ops w (fun a => wpListIn (Wr r) 3 P ops Q l a w) n D M [] := SS.mk fun a F => wpStill_nil (k.h a F)
theorem SS.nilQ (k : EE Q n D M .normal w) : SS P ops w (fun a => Q .normal a w) n D M [] := SS.mk fun a F => wpStill_nil (k.h a F)

/-! Regions that draw their order, in a round or not. -/
theorem wpIn_of_still {a : Act} {K : Act → Prop} {K' : Act → World → Prop} (hdf : dfB o.op = false) (h : ∀ a, K a → K' a w) (hh : o.still P a w K) : o.wpIn (Wr r) 3 P a w K' Q := by
  unfold Oper.still at hh
  refine ⟨about_wr a, ?_⟩
  rw [Oper.semAt_eq _ _ _ (by intro c hc; rw [hc] at hdf; cases hdf)]
  generalize (execOp a.eval o).run P w = x at *
  cases x with
  | ok y w' =>
    cases y <;> simp only [Oper.stillUpon] at hh <;> simp only [Oper.uponIn]
    case enter f args =>
      obtain ⟨rfl, v, hc, hn⟩ := hh
      exact ⟨fun h => (by cases h), callsWr (hc.mono fun e w'' ⟨he, hw⟩ => by subst he; subst hw; exact h _ hn)⟩
    all_goals (obtain ⟨rfl, h2⟩ := hh; exact h _ h2)
  | halt x w' => simp only [Oper.stillUpon] at hh
theorem wpOpIn_of_stOp {i : Nat} {a : Act} {K : Act → Prop} {K' : Act → World → Prop} (hdf : ∀ (j : Nat) (o : Oper), ops[j]? = some o → dfB o.op = false) (h : ∀ a, K a → K' a w) (hh : stOp P ops w i K a) : wpOpIn (Wr r) 3 P ops Q i K' a w := by
  unfold stOp at hh
  unfold wpOpIn
  split
  · rename_i ho; simp only [ho] at hh; exact h _ hh
  · rename_i o ho
    simp only [ho] at hh
    split
    · rename_i hw; simp only [hw, if_true] at hh; exact wpIn_of_still (hdf _ _ ho) h hh
    · rename_i hw; simp only [hw] at hh; exact ⟨about_wr a, h _ hh⟩
theorem wpAnyIn_of_still {md : Region.Mode} {R : Act → Prop} (hdf : ∀ (j : Nat) (o : Oper), ops[j]? = some o → dfB o.op = false) (hQ : ∀ a, R a → Q .normal a w) : ∀ (fuel : Nat) (listed : Array Bool) (a : Act),
    wpAnyS P md ops w R fuel listed a → wpAnyIn (Wr r) 3 P md ops Q fuel listed a w
  | 0, _, _, h => ⟨h.1, hQ _ h.2⟩
  | fuel + 1, _, _, h => ⟨fun h0 => hQ _ (h.1 h0), fun i hi => wpOpIn_of_stOp hdf (fun a' => wpAnyIn_of_still hdf hQ fuel _ a') (h.2 i hi)⟩

/-- Where all leave the world alone. -/
theorem CC.quiet {id : Nat} {l : List Oper} (hm : P.follows .mixedOrders = true) (hB : (Region.lexB .any l.toArray && l.all fun o => !dfB o.op) = true)
    (h : SS P l.toArray w.drew (fun a => Q .normal a w.drew) n D M l) : CC r P Q n D M (.region id l.toArray true) w := CC.mk fun a F => by
  rw [Bool.and_eq_true] at hB
  obtain ⟨hB, hdf0⟩ := hB
  have hdf : ∀ (j : Nat) o, l.toArray[j]? = some o → dfB o.op = false := fun j o ho => by
    have := List.all_eq_true.1 hdf0 o (by simpa using List.mem_of_getElem? (by simpa using ho))
    simpa using this
  simp only [Region.lexB, Bool.and_eq_true] at hB
  refine wpIn_region_any hm (wpAnyIn_of_still (R := fun a' => Q .normal a' w.drew) hdf (fun _ h => h) _ _ _ ?_)
  have := wpAnyS_lex (md := .any) hB.1 l 0 (Array.replicate l.toArray.size false) a (by simp) (by simpa using hB.2) (h.h a F)
  simpa using this

theorem CC.region {id : Nat} {l : List Oper} (h : LL r P l.toArray Q n D M l w) : CC r P Q n D M (.region id l.toArray false) w := CC.mk fun a F => wpIn_region_lit (h.h a F)
theorem CC.seq {x y : Code} (h : CC r P (Exit.then (y.wpIn (Wr r) 3 P Q) Q) n D M x w) : CC r P Q n D M (.seq x y) w := CC.mk fun a F => wpIn_seq (h.h a F)
theorem CC.yes {c : Operand} {x y : Code} (hc : evM M c = some (.bool true)) (h : CC r P Q n D M x w) : CC r P Q n D M (.cond c x y) w := CC.mk fun a F => wpIn_cond_true (F.ev hc) (h.h a F)
theorem CC.no {c : Operand} {x y : Code} (hc : evM M c = some (.bool false)) (h : CC r P Q n D M y w) : CC r P Q n D M (.cond c x y) w := CC.mk fun a F => wpIn_cond_false (F.ev hc) (h.h a F)
theorem CC.if {c : Operand} {x y : Code} {t : Bool} (hc : evM M c = some (.bool t)) (h1 : t = true → CC r P Q n D M x w) (h2 : t = false → CC r P Q n D M y w) : CC r P Q n D M (.cond c x y) w := CC.mk fun a F => wpIn_cond_split (F.ev hc) (fun h => (h1 h).h a F) (fun h => (h2 h).h a F)
theorem CC.block {id : Nat} {c : Code} (h : CC r P (Exit.inBlock id Q) n D M c w) : CC r P Q n D M (.block id c) w := CC.mk fun a F => wpIn_block (h.h a F)
theorem CC.skip (h : EE Q n D M .normal w) : CC r P Q n D M .skip w := CC.mk fun a F => wpIn_skip (h.h a F)
theorem CC.label {l : Nat} (h : EE Q n D M .normal w) : CC r P Q n D M (.label l) w := CC.mk fun a F => wpIn_label (h.h a F)
theorem CC.exit {id : Nat} (h : EE Q n D M (.exit id) w) : CC r P Q n D M (.exit id) w := CC.mk fun a F => wpIn_exit (h.h a F)
theorem CC.goto {id : Nat} (h : EE Q n D M (.goto id) w) : CC r P Q n D M (.goto id) w := CC.mk fun a F => wpIn_goto (h.h a F)
theorem CC.ret (h : EE Q n D M .ret w) : CC r P Q n D M .ret w := CC.mk fun a F => wpIn_ret (h.h a F)
theorem CC.keep {c : Code} (L : List (Nat × Value)) (hL : Fits M L) (h : CC r P Q n D (sl L) c w) : CC r P Q n D M c w := CC.mk fun a F => h.h a (F.keep L hL)
/-- The loop: α says where it stands. -/
theorem CC.loop {α : Type} {c : Code} (L : α → List (Nat × Value)) (I : α → World → Prop) (μ : α → Nat) (p0 : α) (hL : Fits M (L p0)) (h0 : I p0 w)
    (round : ∀ p w, I p w → CC r P (Exit.then (fun a' w' => ∃ p', Fr n D (sl (L p')) a' ∧ I p' w' ∧ μ p' < μ p) Q) n D (sl (L p)) c w) : CC r P Q n D M (.loop c) w := CC.mk fun a F => by
  classical
  let J : Act → World → Nat → Prop := fun a w m => ∃ p, Fr n D (sl (L p)) a ∧ I p w ∧ μ p ≤ m
  have mono : ∀ {a w m m'}, m ≤ m' → J a w m → J a w m' := fun h ⟨p, h1, h2, h3⟩ => ⟨p, h1, h2, Nat.le_trans h3 h⟩
  have least : ∀ a w, (∃ m, J a w m) → ∃ m, J a w m ∧ ∀ k, J a w k → m ≤ k := by
    rintro a w ⟨m, hm⟩
    induction m using Nat.strongRecOn with
    | _ m ih =>
      by_cases h : ∃ k, k < m ∧ J a w k
      · obtain ⟨k, hk, hj⟩ := h; exact ih k hk hj
      · exact ⟨m, hm, fun k hk => by
          rcases Nat.lt_or_ge k m with h' | h'
          · exact absurd ⟨k, h', hk⟩ h
          · exact h'⟩
  refine wpIn_loop (fun a w => ∃ m, J a w m) (fun a w => if h : ∃ m, J a w m then Classical.choose (least a w h) else 0) ⟨μ p0, p0, F.keep _ hL, h0, Nat.le_refl _⟩ ?_
  intro a w hI
  have hl := Classical.choose_spec (least a w hI)
  rw [dif_pos hI]
  obtain ⟨p, hF, hp, hm⟩ := hl.1
  refine Code.wpIn_mono ?_ ((round p w hp).h a hF)
  intro e a' w' hq
  cases e <;> try exact hq
  obtain ⟨p', hF', hp', hlt⟩ := hq
  have hI' : ∃ m, J a' w' m := ⟨μ p', p', hF', hp', Nat.le_refl _⟩
  refine ⟨hI', ?_⟩
  rw [dif_pos hI']
  have := (Classical.choose_spec (least a' w' hI')).2 (μ p') ⟨p', hF', hp', Nat.le_refl _⟩
  omega
/-- A round's end. -/
theorem EE.round {α : Type} {L : α → List (Nat × Value)} {I : α → World → Prop} {μ : α → Nat} {p : α} (p' : α) (hL : Fits M (L p')) (hI : I p' w) (hμ : μ p' < μ p) : EE (Exit.then (fun a' w' => ∃ p', Fr n D (sl (L p')) a' ∧ I p' w' ∧ μ p' < μ p) Q) n D M .normal w := EE.mk fun _ F => ⟨p', F.keep _ hL, hI, hμ⟩

theorem EE.thenN {y : Code} (h : CC r P Q n D M y w) : EE (Exit.then (y.wpIn (Wr r) 3 P Q) Q) n D M .normal w := EE.mk fun a F => h.h a F
theorem EE.thenX {K : Act → World → Prop} {i : Nat} (h : EE Q n D M (.exit i) w) : EE (Exit.then K Q) n D M (.exit i) w := EE.mk fun a F => h.h a F
theorem EE.thenR {K : Act → World → Prop} (h : EE Q n D M .ret w) : EE (Exit.then K Q) n D M .ret w := EE.mk fun a F => h.h a F
theorem EE.thenG {K : Act → World → Prop} {i : Nat} (h : EE Q n D M (.goto i) w) : EE (Exit.then K Q) n D M (.goto i) w := EE.mk fun a F => h.h a F
theorem EE.inN {i : Nat} (h : EE Q n D M .normal w) : EE (Exit.inBlock i Q) n D M .normal w := EE.mk fun a F => h.h a F
theorem EE.inX {i : Nat} (h : EE Q n D M .normal w) : EE (Exit.inBlock i Q) n D M (.exit i) w := EE.mk fun a F => by simp only [Exit.inBlock, if_true]; exact h.h a F
theorem EE.inX' {i j : Nat} (hne : Nat.beq j i = false) (h : EE Q n D M (.exit j) w) : EE (Exit.inBlock i Q) n D M (.exit j) w := EE.mk fun a F => by
  have : j ≠ i := fun e => by subst e; rw [Nat.beq_refl] at hne; cases hne
  simp only [Exit.inBlock, if_neg this]; exact h.h a F
theorem EE.inR {i : Nat} (h : EE Q n D M .ret w) : EE (Exit.inBlock i Q) n D M .ret w := EE.mk fun a F => h.h a F
/-! Returns. -/
def resM (M : Slots) : List ResultVar → Option (List Value)
  | [] => some []
  | .tmp t :: l => match M t, resM M l with
    | some v, some vs => some (v :: vs)
    | _, _ => none
  | .cell _ _ :: _ => none
def resV : List Value → Value
  | [v] => v
  | vs => .tuple vs.toArray
theorem results_run {fn : Func} {a : Act} {vs : List Value} (F : Fr n D M a) (h : resM M fn.results.toList = some vs) (h3 : vs.length ≤ 3) : (results fn a.tmps).run P w = .ok (resV vs) w := by
  obtain ⟨l, hl⟩ : ∃ l, fn.results = l.toArray := ⟨fn.results.toList, by simp⟩
  rw [hl] at h
  simp only [List.toList_toArray] at h
  have key : ∀ (l : List ResultVar) (vs : List Value), resM M l = some vs → ∃ ts : List Tmp, l = ts.map .tmp ∧ vs = ts.map fun t => a.tmps.getD t undef := by
    intro l
    induction l with
    | nil => intro vs h; cases h; exact ⟨[], rfl, rfl⟩
    | cons x l ih =>
      intro vs h
      cases x with
      | cell => cases h
      | tmp t =>
        simp only [resM] at h
        cases ht : M t with
        | none => rw [ht] at h; cases h
        | some v =>
          cases hr : resM M l with
          | none => rw [ht, hr] at h; cases h
          | some us =>
            rw [ht, hr] at h
            cases h
            obtain ⟨ts, rfl, rfl⟩ := ih us hr
            exact ⟨t :: ts, rfl, by simp [← F.get t v ht]⟩
  obtain ⟨ts, rfl, rfl⟩ := key l vs h
  rw [List.length_map] at h3
  match ts, h3 with
  | [], _ => simp [results, hl, resV]
  | [t], _ => exact results_tmp hl _ _ _
  | [t, u], _ => exact results_tmp2 hl _ _ _
  | [t, u, x], _ => exact results_tmp3 hl _ _ _
end
end Go.Proofs.YtompfnnmiccipaaGreatDoor
/- What single operations do, for the walk by explicit steps. Over any program. -/
namespace Go.Proofs.YtompfnnmiccipaaGreatDoor
set_option linter.unusedVariables false
set_option linter.unusedSimpArgs false
open Go.RowKit Go.Shelf

/-- A function's contract from its body's walk. -/
theorem X.fn {P : Program} {f : FuncId} {fn : Func} {c : Code} {args : Array Value} {w : World} {R : Ending → World → Prop} {n : Nat} (hf : P.funcs[f]? = some fn) (hb : fn.body = some c) (hn : fn.ntmps = n) (ha : Nat.ble args.size n = true)
    (h : CC none P (bodyPost P fn R) n [] (argM args) c w) : Calls P f args w R := by
  subst hn
  exact (callsIn_wide (n := 3)).1 (callsIn_of_wp hf hb trivial (h.h _ (Fr.start args _ (by simpa using ha))) rfl)
theorem EE.ret {P : Program} {fn : Func} {R : Ending → World → Prop} {n : Nat} {M : Slots} {w : World} (vs : List Value) (h : resM M fn.results.toList = some vs) (h3 : Nat.ble vs.length 3 = true) (hR : R (.returned (resV vs)) w) : EE (bodyPost P fn R) n [] M .ret w := EE.mk fun _ F => ⟨F.defers, _, results_run F h (by simpa using h3), hR⟩
theorem EE.end {P : Program} {fn : Func} {R : Ending → World → Prop} {n : Nat} {M : Slots} {w : World} (vs : List Value) (h : resM M fn.results.toList = some vs) (h3 : Nat.ble vs.length 3 = true) (hR : R (.returned (resV vs)) w) : EE (bodyPost P fn R) n [] M .normal w := EE.mk fun _ F => ⟨F.defers, _, results_run F h (by simpa using h3), hR⟩
/-- A result that lies in a variable's cells. -/
theorem EE.retC {P : Program} {fn : Func} {R : Ending → World → Prop} {n : Nat} {M : Slots} {w : World} {s : Tmp} {t : TypeId} {p : Addr} {v : Value} (h : fn.results = #[.cell s t]) (hs : M s = some (.pointer (some p))) (hv : (loadVar t p).run P w = .ok v w) (hR : R (.returned v) w) : EE (bodyPost P fn R) n [] M .ret w := EE.mk fun a F => ⟨F.defers, v, by
    unfold results
    rw [h]
    have hg := F.get s _ hs
    simp only [List.mapM_toArray, List.mapM_cons, List.mapM_nil, hg, asAddr]
    simp only [bind_assoc, pure_bind, Sem.run_bind, Sem.run_map, Sem.run_pure, hv, Result.andThen_ok]
    rfl, hR⟩

def oneB (P : Program) (t : TypeId) : Bool := match P.underlying t with
  | some (.struct _) | some (.array _ _) => false
  | some _ => true
  | none => false
def aggB (P : Program) (t : TypeId) : Bool := match P.underlying t with
  | some (.struct _) | some (.array _ _) => true
  | _ => false
def szB (P : Program) (t : TypeId) : Option Nat := (P.info? t).map (·.size)
def zeroB (P : Program) (t : TypeId) : Option Value := (P.info? t).bind (·.zero)
def fldB (P : Program) (t i : Nat) : Option (Nat × Bool) := match P.underlying t with
  | some (.struct fs) => (fs[i]?).map fun f => (f.offset, (P.info? f.type).map (·.size) != some 0 && (P.info? f.type).isSome)
  | _ => none
def entB (P : Program) (f : FuncId) : Bool := match P.funcs[f]? with
  | some fn => fn.body.isSome && !(fn.name == "runtime.NumGoroutine")
  | none => false
def evsM (M : Slots) : List Operand → Option (List Value)
  | [] => some []
  | x :: l => match evM M x, evsM M l with
    | some v, some vs => some (v :: vs)
    | _, _ => none

section
variable {P : Program} {w w' : World} {o : Oper} {n : Nat} {D : List Deferred} {M : Slots} {v vx vy : Value} {x y : Operand} {t : TypeId}

theorem R.move (ho : o.op = .move x) (hx : evM M x = some v) : Runs P n D M o w (.value v) w := fun a F => by
  unfold execOp; simp only [ho, F.ev hx, Sem.run_pure]
theorem R.assign (ho : o.op = .assign x) (hx : evM M x = some v) : Runs P n D M o w (.value v) w := fun a F => by
  unfold execOp; simp only [ho, F.ev hx, Sem.run_pure]
theorem R.load (ho : o.op = .load t x) (hx : evM M x = some vx) (hr : (Instr.loadAt t vx).run P w = .ok v w') : Runs P n D M o w (.value v) w' := fun a F => by
  unfold execOp; simp only [ho, F.ev hx, Sem.run_bind, Sem.run_pure, hr, Result.andThen_ok]
theorem R.store (ho : o.op = .store t x y) (hx : evM M x = some vx) (hy : evM M y = some vy) (hr : (Instr.storeAt t vx vy).run P w = .ok () w') : Runs P n D M o w .skip w' := fun a F => by
  unfold execOp; simp only [ho, F.ev hx, F.ev hy, Sem.run_bind, Sem.run_pure, hr, Result.andThen_ok]
theorem R.box (ho : o.op = .box t x) (hx : evM M x = some vx) (hr : (Instr.box t vx).run P w = .ok v w') : Runs P n D M o w (.value v) w' := fun a F => by
  unfold execOp; simp only [ho, F.ev hx, Sem.run_bind, Sem.run_pure, hr, Result.andThen_ok]
theorem R.alloc (ho : o.op = .alloc t) (hr : (Instr.alloc t true (.tuple #[])).run P w = .ok v w') : Runs P n D M o w (.value v) w' := fun a F => by
  unfold execOp; simp only [ho, Sem.run_bind, Sem.run_pure, hr, Result.andThen_ok]
theorem R.nil {p : Addr} (ho : o.op = .nilCheck x) (hx : evM M x = some (.pointer (some p))) : Runs P n D M o w (.value (.pointer (some p))) w := fun a F => by
  unfold execOp; simp only [ho, F.ev hx]; rfl
theorem R.field {i : Nat} (ho : o.op = .fieldAddr t x i) (hx : evM M x = some vx) (hr : (Instr.fieldAt t vx i).run P w = .ok v w') : Runs P n D M o w (.value v) w' := fun a F => by
  unfold execOp; simp only [ho, F.ev hx, Sem.run_bind, Sem.run_pure, hr, Result.andThen_ok]
theorem R.fieldV {i : Nat} (ho : o.op = .field t x i) (hx : evM M x = some vx) (hr : (Instr.field t vx i).run P w = .ok v w') : Runs P n D M o w (.value v) w' := fun a F => by
  unfold execOp; simp only [ho, F.ev hx, Sem.run_bind, Sem.run_pure, hr, Result.andThen_ok]
theorem R.index (ho : o.op = .indexAddr t x y) (hx : evM M x = some vx) (hy : evM M y = some vy) (hr : (Instr.indexAt t vx vy).run P w = .ok v w') : Runs P n D M o w (.value v) w' := fun a F => by
  unfold execOp; simp only [ho, F.ev hx, F.ev hy, Sem.run_bind, Sem.run_pure, hr, Result.andThen_ok]
theorem R.indexV (ho : o.op = .index t x y) (hx : evM M x = some vx) (hy : evM M y = some vy) (hr : (Instr.index t vx vy).run P w = .ok v w') : Runs P n D M o w (.value v) w' := fun a F => by
  unfold execOp; simp only [ho, F.ev hx, F.ev hy, Sem.run_bind, Sem.run_pure, hr, Result.andThen_ok]
theorem R.bin {op : BinOp} {u : TypeId} (ho : o.op = .binOp op t x y u) (hx : evM M x = some vx) (hy : evM M y = some vy) (hr : ((do eqGuard op t x y vx vy; binOp op t vx vy) : Sem Value).run P w = .ok v w') : Runs P n D M o w (.value v) w' := fun a F => by
  unfold execOp; simp only [ho, F.ev hx, F.ev hy, Sem.run_bind, Sem.run_pure] at hr ⊢; rw [hr]; rfl
theorem R.un {op : UnOp} (ho : o.op = .unOp op t x) (hx : evM M x = some vx) (hr : (Op.unary op vx).run P w = .ok v w') : Runs P n D M o w (.value v) w' := fun a F => by
  unfold execOp; simp only [ho, F.ev hx, Sem.run_bind, Sem.run_pure, hr, Result.andThen_ok]
theorem R.extract {i : Nat} {vs : Array Value} (ho : o.op = .extract x i) (hx : evM M x = some (.tuple vs)) (hv : vs[i]? = some v) : Runs P n D M o w (.value v) w := fun a F => by
  unfold execOp; simp only [ho, F.ev hx, Instr.extract, hv, Sem.run_bind, Sem.run_pure, Result.andThen_ok]
theorem R.pick {c : Operand} {b : Bool} (ho : o.op = .pick c x y) (hc : evM M c = some (.bool b)) (hv : evM M (bif b then x else y) = some v) : Runs P n D M o w (.value v) w := fun a F => by
  have := F.ev hv
  unfold execOp
  cases b
  · simp only [cond_false] at this
    simp only [ho, F.ev hc, asBool, Sem.run_bind, Sem.run_pure, Result.andThen_ok, this, Bool.false_eq_true, if_false]
  · simp only [cond_true] at this
    simp only [ho, F.ev hc, asBool, Sem.run_bind, Sem.run_pure, Result.andThen_ok, this, if_true]
def evo (M : Slots) : Option Operand → Option (Option Value)
  | none => some none
  | some x => (evM M x).map some
theorem evo_map {a : Act} (F : Fr n D M a) {l : Option Operand} {lv : Option Value} (h : evo M l = some lv) : l.map a.eval = lv := by
  cases l with
  | none => cases h; rfl
  | some x =>
    simp only [evo] at h
    cases hx : evM M x with
    | none => rw [hx] at h; cases h
    | some u => rw [hx] at h; cases h; simp [F.ev hx]
theorem R.slice {l h m : Option Operand} {lv hv mv : Option Value} (ho : o.op = .slice t x l h m) (hx : evM M x = some vx) (h1 : evo M l = some lv) (h2 : evo M h = some hv) (h3 : evo M m = some mv) (hr : (Instr.sliceAt t vx lv hv mv).run P w = .ok v w') : Runs P n D M o w (.value v) w' := fun a F => by
  unfold execOp; simp only [ho, F.ev hx, evo_map F h1, evo_map F h2, evo_map F h3, Sem.run_bind, Sem.run_pure, hr, Result.andThen_ok]
theorem evs_map {a : Act} (F : Fr n D M a) : ∀ {l : List Operand} {vs : List Value}, evsM M l = some vs → l.map a.eval = vs
  | [], vs, h => by cases h; rfl
  | x :: l, vs, h => by
    simp only [evsM] at h
    cases hx : evM M x with
    | none => rw [hx] at h; cases h
    | some u =>
      cases hr : evsM M l with
      | none => rw [hx, hr] at h; cases h
      | some us => rw [hx, hr] at h; cases h; simp [F.ev hx, evs_map F hr]
theorem evs_mapA {a : Act} (F : Fr n D M a) {xs : Array Operand} {vs : List Value} (h : evsM M xs.toList = some vs) : xs.map a.eval = vs.toArray := by
  rw [← evs_map F h]; cases xs; simp
theorem ent_of {f : FuncId} (h : entB P f = true) (args : Array Value) (w : World) : (callFunc f args).run P w = .ok (.enter f args) w := by
  unfold entB at h
  cases hf : P.funcs[f]? with
  | none => rw [hf] at h; cases h
  | some fn =>
    rw [hf] at h
    simp only [Bool.and_eq_true] at h
    cases hb : fn.body with
    | none => rw [hb] at h; simp at h
    | some c => exact enters_of hf (by simpa using h.2) hb args w
/-- A call of a named function. -/
theorem R.call {f : FuncId} {xs : Array Operand} {ts : Array TypeId} {vs : List Value} (ho : o.op = .call { callee := .value (.func f), args := xs, argTypes := ts }) (hx : evsM M xs.toList = some vs) (eg : entB P f = true) : Runs P n D M o w (.enter f vs.toArray) w := fun a F => by
  have hm := evs_mapA F hx
  unfold execOp
  simp only [ho]
  have hf : a.eval (.func f) = .func (.func f) #[] #[] := rfl
  simp only [resolve, hf, hm, Deferred.ofValue, invoke, Sem.run_bind, Sem.run_pure, Result.andThen_ok, Array.empty_append, Array.append_empty]
  exact ent_of eg _ _
/-- A call of a function's value. -/
theorem R.callV {f : FuncId} {xs : Array Operand} {ts : Array TypeId} {vs : List Value} {cap : Array Value} (ho : o.op = .call { callee := .value x, args := xs, argTypes := ts }) (hf : evM M x = some (.func (.func f) #[] cap)) (hx : evsM M xs.toList = some vs) (eg : entB P f = true) : Runs P n D M o w (.enter f (vs.toArray ++ cap)) w := fun a F => by
  have hm := evs_mapA F hx
  unfold execOp
  simp only [ho]
  simp only [resolve, F.ev hf, hm, Deferred.ofValue, invoke, Sem.run_bind, Sem.run_pure, Result.andThen_ok, Array.empty_append]
  exact ent_of eg _ _
theorem R.builtin {b : Builtin} {xs : Array Operand} {ts : Array TypeId} {vs : List Value} (ho : o.op = .call { callee := .builtin b, args := xs, argTypes := ts }) (hx : evsM M xs.toList = some vs) {z : Next} (hr : ∀ cs, (builtin b ts o.type cs vs.toArray).run P w = .ok z w') : Runs P n D M o w z w' := fun a F => by
  have hm := evs_mapA F hx
  unfold execOp
  simp only [ho, resolve, invoke, hm, Sem.run_bind, Sem.run_pure, Result.andThen_ok]
  exact hr _
theorem R.func {fn : Fn} {f1 f2 : Array Operand} {v1 v2 : List Value} (ho : o.op = .makeFunc fn f1 f2) (h1 : evsM M f1.toList = some v1) (h2 : evsM M f2.toList = some v2) : Runs P n D M o w (.value (.func fn v1.toArray v2.toArray)) w := fun a F => by
  unfold execOp
  simp only [ho, evs_mapA F h1, evs_mapA F h2, Instr.makeFunc, Sem.run_bind, Sem.run_pure, Result.andThen_ok]
theorem R.build {ps : Array (Nat × Operand)} {vs : List (Nat × Value)} (ho : o.op = .build t ps) (hx : ∀ a, Fr n D M a → (ps.map fun (i, x) => (i, a.eval x)) = vs.toArray) (hr : (Instr.build t vs.toArray).run P w = .ok v w') : Runs P n D M o w (.value v) w' := fun a F => by
  unfold execOp; simp only [ho, hx a F, Sem.run_bind, Sem.run_pure, hr, Result.andThen_ok]
def evpM (M : Slots) : List (Nat × Operand) → Option (List (Nat × Value))
  | [] => some []
  | (i, x) :: l => match evM M x, evpM M l with
    | some v, some vs => some ((i, v) :: vs)
    | _, _ => none
theorem evp_map {a : Act} (F : Fr n D M a) : ∀ {l : List (Nat × Operand)} {vs : List (Nat × Value)}, evpM M l = some vs → (l.map fun (i, x) => (i, a.eval x)) = vs
  | [], vs, h => by cases h; rfl
  | (i, x) :: l, vs, h => by
    simp only [evpM] at h
    cases hx : evM M x with
    | none => rw [hx] at h; cases h
    | some u =>
      cases hr : evpM M l with
      | none => rw [hx, hr] at h; cases h
      | some us => rw [hx, hr] at h; cases h; simp [F.ev hx, evp_map F hr]
theorem R.build' {ps : Array (Nat × Operand)} {vs : List (Nat × Value)} (ho : o.op = .build t ps) (hx : evpM M ps.toList = some vs) (hr : (Instr.build t vs.toArray).run P w = .ok v w') : Runs P n D M o w (.value v) w' :=
  R.build ho (fun a F => by rw [← evp_map F hx]; cases ps; simp) hr
theorem R.buildSlice {ps : Array (Nat × Operand)} {k : Nat} {vs : List (Nat × Value)} (ho : o.op = .buildSlice t k ps) (hx : evpM M ps.toList = some vs) (hr : (Instr.buildSlice t k vs.toArray).run P w = .ok v w') : Runs P n D M o w (.value v) w' := fun a F => by
  have : (ps.map fun (i, x) => (i, a.eval x)) = vs.toArray := by rw [← evp_map F hx]; cases ps; simp
  unfold execOp; simp only [ho, this, Sem.run_bind, Sem.run_pure, hr, Result.andThen_ok]
end

theorem grown_set (w : World) (p : Addr) (v : Value) : w.grownBy (w.setCell p v) (some p.block) := ⟨rfl, rfl, rfl, by simp [World.setCell], fun k _ hne => Below.heap_setCell _ _ _ _ (by simpa using hne)⟩
/-! The instructions. -/
section
variable {P : Program} {w w' : World} {t : TypeId} {v : Value} {p : Addr}

theorem isAgg_one (h : oneB P t = true) (w : World) : (isAgg t).run P w = .ok false w := by
  unfold oneB at h
  cases hu : P.underlying t with
  | none => rw [hu] at h; cases h
  | some u =>
    rw [hu] at h
    unfold isAgg
    simp only [Sem.run_bind, run_underlying hu, Result.andThen_ok]
    cases u <;> first | rfl | cases h
theorem isAgg_agg (h : aggB P t = true) (w : World) : (isAgg t).run P w = .ok true w := by
  unfold aggB at h
  cases hu : P.underlying t with
  | none => rw [hu] at h; cases h
  | some u =>
    rw [hu] at h
    unfold isAgg
    simp only [Sem.run_bind, run_underlying hu, Result.andThen_ok]
    cases u <;> first | rfl | cases h
theorem size_of_sz {k : Nat} (h : szB P t = some k) (w : World) : (sizeOf t).run P w = .ok k w := by
  unfold szB at h
  cases hi : P.info? t with
  | none => rw [hi] at h; cases h
  | some i => rw [hi] at h; cases h; simp [sizeOf, typeInfo, hi]
theorem zero_of (h : zeroB P t = some v) (w : World) : (zeroValue t).run P w = .ok v w := by
  unfold zeroB at h
  cases hi : P.info? t with
  | none => rw [hi] at h; cases h
  | some i => rw [hi] at h; simp at h; simp [zeroValue, typeInfo, hi, h]

theorem lv1 (hT : oneB P t = true) (hc : w.cell? p = some v) : (loadVar t p).run P w = .ok v w := by
  unfold loadVar
  simp [isAgg_one hT, hc]
theorem I.ld1 (hT : oneB P t = true) (hc : w.cell? p = some v) : (Instr.loadAt t (.pointer (some p))).run P w = .ok v w := by
  unfold Instr.loadAt Instr.sureAddr
  simp [lv1 hT hc]
/-- These cells lie there, one beside the other. -/
def Cells (w : World) (p : Addr) (vs : List Value) : Prop := ∀ j v, vs[j]? = some v → w.cell? (p.add j) = some v
theorem lvN {vs : List Value} (hT : aggB P t = true) (hz : szB P t = some vs.length) (hc : Cells w p vs) : (loadVar t p).run P w = .ok (.agg vs.toArray) w := by
  have hl := run_loadCells_list (P := P) (w := w) p vs hc
  unfold loadVar
  simp [isAgg_agg hT, size_of_sz hz, hl]
theorem I.ldN {vs : List Value} (hT : aggB P t = true) (hz : szB P t = some vs.length) (hc : Cells w p vs) : (Instr.loadAt t (.pointer (some p))).run P w = .ok (.agg vs.toArray) w := by
  unfold Instr.loadAt Instr.sureAddr
  simp [lvN hT hz hc]
theorem add_plain (b off j : Nat) : (⟨b, off, none⟩ : Addr).add j = ⟨b, off + j, none⟩ := Addr.add_lit b off j
theorem RowL.cells {w : World} {g e off : Nat} {xs vs : List Value} (h : RowL w g e xs) (hv : (xs.drop off).take vs.length = vs) : Cells w ⟨g, off, none⟩ vs := fun j v hj => by
  rw [add_plain]
  refine h.cell ?_
  rw [← hv] at hj
  rw [List.getElem?_take] at hj
  split at hj
  · rw [List.getElem?_drop] at hj; exact hj
  · cases hj

theorem I.st1 {u : Value} (hz : szB P t = some 1) (hc : w.cell? p = some u) (hf : w.frozen? p = false) (h1 : v.oneCell' = true) (hcs : v.cells = #[v]) : (Instr.storeAt t (.pointer (some p)) v).run P w = .ok () (w.setCell p v) := by
  unfold Instr.storeAt Instr.sureAddr storeVar
  have h0 : p.add 0 = p := by simp [Addr.add]
  have hs : (store p v).run P w = .ok () (w.setCell p v) := by rw [run_store P w p v .plain h1]; simp [hc, hf]
  simp [size_of_sz hz, hcs, storeCells, h0, hs, Sem.run_bind]
theorem setRow_grown (w : World) (g : Nat) (cs : Array Value) : w.grownBy (w.setRow g cs) (some g) := ⟨rfl, rfl, rfl, by simp, fun k _ hne => setRow_other w g k cs (by simpa using hne)⟩
/-- A whole variable, or a part, of a row that is known. -/
theorem I.stN {g off e : Nat} {xs vs : List Value} (hz : szB P t = some vs.length) (hr : RowL w g e xs) (hl : off + vs.length ≤ xs.length) (h1 : ∀ u ∈ vs, u.oneCell' = true) :
    ∃ w', (Instr.storeAt t (.pointer (some ⟨g, off, none⟩)) (.agg vs.toArray)).run P w = .ok () w' ∧ RowL w' g e (xs.take off ++ vs ++ xs.drop (off + vs.length)) ∧ w.grownBy w' (some g) ∧ w'.heap.size = w.heap.size := by
  have hs := run_storeCells_at (P := P) g off e vs 0 xs.toArray w hr (by simpa using hl) h1
  simp only [Nat.add_zero] at hs
  refine ⟨w.setRow g (xs.take off ++ vs ++ xs.drop (off + vs.length)).toArray, ?_, setRow_heap w g xs.toArray _ e (0, 0) hr, setRow_grown w g _, by simp⟩
  unfold Instr.storeAt Instr.sureAddr storeVar
  simp [size_of_sz hz, Value.cells, hs, Sem.run_bind]
/-- One cell of a row that is known. -/
theorem I.st1R {g off e : Nat} {xs : List Value} (hz : szB P t = some 1) (hr : RowL w g e xs) (hl : off < xs.length) (h1 : v.oneCell' = true) (hcs : v.cells = #[v]) : (Instr.storeAt t (.pointer (some ⟨g, off, none⟩)) v).run P w = .ok () (w.setCell ⟨g, off, none⟩ v) :=
  I.st1 hz (hr.cell (u := xs[off]) (by simp [hl])) (hr.frozen off) h1 hcs
theorem I.fld {i off g o : Nat} (h : fldB P t i = some (off, true)) : (Instr.fieldAt t (.pointer (some ⟨g, o, none⟩)) i).run P w = .ok (.pointer (some ⟨g, o + off, none⟩)) w := by
  unfold fldB at h
  cases hu : P.underlying t with
  | none => rw [hu] at h; cases h
  | some u =>
    rw [hu] at h
    cases u <;> try (cases h; done)
    rename_i fs
    simp only at h
    cases hf : fs[i]? with
    | none => rw [hf] at h; cases h
    | some f =>
      rw [hf] at h
      simp only [Option.map_some, Option.some.injEq, Prod.mk.injEq, Bool.and_eq_true] at h
      obtain ⟨rfl, h1, h2⟩ := h
      cases hi : P.info? f.type with
      | none => rw [hi] at h2; cases h2
      | some ti =>
        rw [hi] at h1
        have hne : ti.size ≠ 0 := by simpa using h1
        unfold Instr.fieldAt Instr.sureAddr fieldPlace
        simp [run_underlying hu, hf, sizeOf, typeInfo, hi, hne, add_plain]

def slB (P : Program) (t : TypeId) : Option (TypeId × Nat) := match P.underlying t with
  | some (.slice e) => (szB P e).map fun k => (e, k)
  | _ => none
theorem sl_of {e k : Nat} (h : slB P t = some (e, k)) : P.underlying t = some (.slice e) ∧ szB P e = some k := by
  unfold slB at h
  cases hu : P.underlying t with
  | none => rw [hu] at h; cases h
  | some u =>
    rw [hu] at h
    cases u <;> try (cases h; done)
    rename_i f
    simp only at h
    cases hz : szB P f with
    | none => rw [hz] at h; cases h
    | some m => rw [hz] at h; cases h; exact ⟨rfl, hz⟩
/-- An element of a slice. -/
theorem I.ixS {e k b off len cap i : Nat} (h : slB P t = some (e, k)) (hi : i < len) : (Instr.indexAt t (.slice (some ⟨b, off, none⟩) len cap) (.int .i64 (i : Int))).run P w = .ok (.pointer (some ⟨b, off + i * k, none⟩)) w := by
  obtain ⟨hu, hz⟩ := sl_of h
  have h1 : (i : Int) < (len : Int) := by omega
  unfold Instr.indexAt
  simp [asIntOf, run_underlying hu, h1, size_of_sz hz, add_plain]
  exact fun hh => absurd hi (by omega)
theorem I.ixS1 {e b off len cap i : Nat} (h : slB P t = some (e, 1)) (hi : i < len) : (Instr.indexAt t (.slice (some ⟨b, off, none⟩) len cap) (.int .i64 (i : Int))).run P w = .ok (.pointer (some ⟨b, off + i, none⟩)) w := by
  have := I.ixS (P := P) (w := w) (b := b) (off := off) (cap := cap) h hi
  rwa [Nat.mul_one] at this
theorem run_box {cs : List Value} (h : v.cells = cs.toArray) : (Instr.box t v).run P w = .ok (.pointer (some ⟨w.heap.size, 0, none⟩)) (w.alloc (.cells cs.toArray t)) := by
  unfold Instr.box newVar newRow
  rw [h]
  simp [Sem.run_bind, run_newObj_alloc]
theorem run_alloc {cs : List Value} (hz : zeroB P t = some v) (h : v.cells = cs.toArray) : (Instr.alloc t true (.tuple #[])).run P w = .ok (.pointer (some ⟨w.heap.size, 0, none⟩)) (w.alloc (.cells cs.toArray t)) := by
  unfold Instr.alloc newVar newRow
  simp [zero_of hz, h, Sem.run_bind, run_newObj_alloc]

/-! Integers. -/
theorem I.addI {a b : Int} {x y : Operand} (h : -9223372036854775808 ≤ a + b ∧ a + b ≤ 9223372036854775807) : ((do eqGuard .add t x y (.int .i64 a) (.int .i64 b); binOp .add t (.int .i64 a) (.int .i64 b)) : Sem Value).run P w = .ok (.int .i64 (a + b)) w := by
  simp [eqGuard, binOp, Op.intArith, IntWalk.i64_in _ h]
theorem I.addN {a b : Nat} {x y : Operand} (h : a + b ≤ 9223372036854775807) : ((do eqGuard .add t x y (.int .i64 (a : Int)) (.int .i64 (b : Int)); binOp .add t (.int .i64 (a : Int)) (.int .i64 (b : Int))) : Sem Value).run P w = .ok (.int .i64 ((a + b : Nat) : Int)) w := by
  rw [I.addI (by omega)]; simp
section
variable {k : IntKind} {a b : Int} {x y : Operand}
theorem I.ltT (h : a < b) : ((do eqGuard .lss t x y (.int k a) (.int k b); binOp .lss t (.int k a) (.int k b)) : Sem Value).run P w = .ok (.bool true) w := by simp [eqGuard, binOp, Op.intCmp, h]
theorem I.ltF (h : b ≤ a) : ((do eqGuard .lss t x y (.int k a) (.int k b); binOp .lss t (.int k a) (.int k b)) : Sem Value).run P w = .ok (.bool false) w := by simp [eqGuard, binOp, Op.intCmp, h]
theorem I.gtT (h : b < a) : ((do eqGuard .gtr t x y (.int k a) (.int k b); binOp .gtr t (.int k a) (.int k b)) : Sem Value).run P w = .ok (.bool true) w := by simp [eqGuard, binOp, Op.intCmp, h]
theorem I.gtF (h : a ≤ b) : ((do eqGuard .gtr t x y (.int k a) (.int k b); binOp .gtr t (.int k a) (.int k b)) : Sem Value).run P w = .ok (.bool false) w := by simp [eqGuard, binOp, Op.intCmp, h]
theorem I.eqT (h : a = b) : ((do eqGuard .eql t x y (.int k a) (.int k b); binOp .eql t (.int k a) (.int k b)) : Sem Value).run P w = .ok (.bool true) w := by simp [eqGuard, binOp, Op.intCmp, h]
theorem I.eqF (h : a ≠ b) : ((do eqGuard .eql t x y (.int k a) (.int k b); binOp .eql t (.int k a) (.int k b)) : Sem Value).run P w = .ok (.bool false) w := by simp [eqGuard, binOp, Op.intCmp, h]
theorem I.neT (h : a ≠ b) : ((do eqGuard .neq t x y (.int k a) (.int k b); binOp .neq t (.int k a) (.int k b)) : Sem Value).run P w = .ok (.bool true) w := by simp [eqGuard, binOp, Op.intCmp, h]
theorem I.neF (h : a = b) : ((do eqGuard .neq t x y (.int k a) (.int k b); binOp .neq t (.int k a) (.int k b)) : Sem Value).run P w = .ok (.bool false) w := by simp [eqGuard, binOp, Op.intCmp, h]
end
theorem I.not {b : Bool} : (Op.unary .not (.bool b)).run P w = .ok (.bool (!b)) w := by simp [Op.unary]
def lenB (P : Program) (t : TypeId) (v : Value) : Option Nat := match P.underlying t, v with
  | some .string, .string s => some s.size
  | some (.array n _), _ => some n
  | some (.slice _), .slice _ n _ => some n
  | _, _ => none
theorem I.len {n : Nat} {ts : Array TypeId} {u : TypeId} {cs : Array Bool} (ht : ts[0]? = some t) (h : lenB P t v = some n) : (builtin .len ts u cs #[v]).run P w = .ok (.value (.int .i64 (n : Int))) w := by
  unfold lenB at h
  have h0 : (#[v] : Array Value)[0]? = some v := rfl
  unfold builtin Builtin.len_
  simp only [ht, h0]
  cases hu : P.underlying t with
  | none => rw [hu] at h; simp at h
  | some d =>
    rw [hu] at h
    cases d <;> first
      | (cases h; done)
      | (simp only [Option.some.injEq] at h; subst h; simp [run_underlying hu, goInt]; done)
      | (cases v <;> first | (cases h; done) | (simp only [Option.some.injEq] at h; subst h; simp [run_underlying hu, goInt]; done))
end

section
variable {P : Program} {w : World} {o : Oper} {n : Nat} {D : List Deferred} {M : Slots} {x y : Operand} {t u : TypeId}
theorem R.addN {a b : Nat} (ho : o.op = .binOp .add t x y u) (hx : evM M x = some (.int .i64 (a : Int))) (hy : evM M y = some (.int .i64 (b : Int))) (h : a + b ≤ 9223372036854775807) : Runs P n D M o w (.value (.int .i64 ((a + b : Nat) : Int))) w := R.bin ho hx hy (I.addN h)
theorem R.addI {a b : Int} (ho : o.op = .binOp .add t x y u) (hx : evM M x = some (.int .i64 a)) (hy : evM M y = some (.int .i64 b)) (h : -9223372036854775808 ≤ a + b ∧ a + b ≤ 9223372036854775807) : Runs P n D M o w (.value (.int .i64 (a + b))) w := R.bin ho hx hy (I.addI h)
theorem R.ltT {k : IntKind} {a b : Int} (ho : o.op = .binOp .lss t x y u) (hx : evM M x = some (.int k a)) (hy : evM M y = some (.int k b)) (h : a < b) : Runs P n D M o w (.value (.bool true)) w := R.bin ho hx hy (I.ltT h)
theorem R.ltF {k : IntKind} {a b : Int} (ho : o.op = .binOp .lss t x y u) (hx : evM M x = some (.int k a)) (hy : evM M y = some (.int k b)) (h : b ≤ a) : Runs P n D M o w (.value (.bool false)) w := R.bin ho hx hy (I.ltF h)
theorem R.gtT {k : IntKind} {a b : Int} (ho : o.op = .binOp .gtr t x y u) (hx : evM M x = some (.int k a)) (hy : evM M y = some (.int k b)) (h : b < a) : Runs P n D M o w (.value (.bool true)) w := R.bin ho hx hy (I.gtT h)
theorem R.gtF {k : IntKind} {a b : Int} (ho : o.op = .binOp .gtr t x y u) (hx : evM M x = some (.int k a)) (hy : evM M y = some (.int k b)) (h : a ≤ b) : Runs P n D M o w (.value (.bool false)) w := R.bin ho hx hy (I.gtF h)
theorem R.eqT {k : IntKind} {a b : Int} (ho : o.op = .binOp .eql t x y u) (hx : evM M x = some (.int k a)) (hy : evM M y = some (.int k b)) (h : a = b) : Runs P n D M o w (.value (.bool true)) w := R.bin ho hx hy (I.eqT h)
theorem R.eqF {k : IntKind} {a b : Int} (ho : o.op = .binOp .eql t x y u) (hx : evM M x = some (.int k a)) (hy : evM M y = some (.int k b)) (h : a ≠ b) : Runs P n D M o w (.value (.bool false)) w := R.bin ho hx hy (I.eqF h)
theorem R.neT {k : IntKind} {a b : Int} (ho : o.op = .binOp .neq t x y u) (hx : evM M x = some (.int k a)) (hy : evM M y = some (.int k b)) (h : a ≠ b) : Runs P n D M o w (.value (.bool true)) w := R.bin ho hx hy (I.neT h)
theorem R.neF {k : IntKind} {a b : Int} (ho : o.op = .binOp .neq t x y u) (hx : evM M x = some (.int k a)) (hy : evM M y = some (.int k b)) (h : a = b) : Runs P n D M o w (.value (.bool false)) w := R.bin ho hx hy (I.neF h)
theorem R.not {b : Bool} (ho : o.op = .unOp .not t x) (hx : evM M x = some (.bool b)) : Runs P n D M o w (.value (.bool (!b))) w := R.un ho hx I.not
theorem R.len {xs : Array Operand} {ts : Array TypeId} {v : Value} {m : Nat} (ho : o.op = .call { callee := .builtin .len, args := xs, argTypes := ts }) (hx : evsM M xs.toList = some [v]) (ht : ts[0]? = some t) (h : lenB P t v = some m) : Runs P n D M o w (.value (.int .i64 (m : Int))) w := R.builtin ho hx fun _ => I.len ht h
/-- A variable's box: a new block. -/
theorem LL.box {r : Option Nat} {ops : Array Oper} {Q : Exit → Act → World → Prop} {rest : List Oper} {v : Value} (cs : List Value) (ho : o.op = .box t x) (hx : evM M x = some v) (hcs : v.cells = cs.toArray) (hd : dstB n o.dst = true) (hg : wantB ops M o.guard = some true)
    (k : ∀ w1 g, g = w.heap.size → RowL w1 g t cs → w1.heap.size = g + 1 → Below w.heap.size w w1 → LL r P ops Q n D (putM M o.dst (.pointer (some ⟨g, 0, none⟩))) rest w1) : LL r P ops Q n D M (o :: rest) w :=
  LL.val (R.box ho hx (run_box hcs)) hd (by rw [ho]; rfl) hg (k _ _ rfl (RowL.new w t cs) (by simp) (Below.alloc0 w _))
theorem LL.alloc {r : Option Nat} {ops : Array Oper} {Q : Exit → Act → World → Prop} {rest : List Oper} {v : Value} (cs : List Value) (ho : o.op = .alloc t) (hz : zeroB P t = some v) (hcs : v.cells = cs.toArray) (hd : dstB n o.dst = true) (hg : wantB ops M o.guard = some true)
    (k : ∀ w1 g, g = w.heap.size → RowL w1 g t cs → w1.heap.size = g + 1 → Below w.heap.size w w1 → LL r P ops Q n D (putM M o.dst (.pointer (some ⟨g, 0, none⟩))) rest w1) : LL r P ops Q n D M (o :: rest) w :=
  LL.val (R.alloc ho (run_alloc hz hcs)) hd (by rw [ho]; rfl) hg (k _ _ rfl (RowL.new w t cs) (by simp) (Below.alloc0 w _))
/-- A store of one cell into a row that is known. -/
theorem LL.store {r : Option Nat} {ops : Array Oper} {Q : Exit → Act → World → Prop} {rest : List Oper} {v : Value} {g off e : Nat} {xs : List Value} (ho : o.op = .store t x y) (hx : evM M x = some (.pointer (some ⟨g, off, none⟩))) (hy : evM M y = some v) (hz : szB P t = some 1) (hr : RowL w g e xs) (hl : off < xs.length) (h1 : v.oneCell' = true) (hcs : v.cells = #[v]) (hd : o.dst = none) (hg : wantB ops M o.guard = some true)
    (k : ∀ w1, RowL w1 g e (xs.set off v) → w.grownBy w1 (some g) → w1.heap.size = w.heap.size → LL r P ops Q n D M rest w1) : LL r P ops Q n D M (o :: rest) w :=
  LL.unit (R.store ho hx hy (I.st1R hz hr hl h1 hcs)) hd (by rw [ho]; rfl) hg (k _ (hr.set off v) (grown_set w _ v) (by simp [World.setCell]))
/-- A store of a whole value into a row that is known. -/
theorem LL.storeN {r : Option Nat} {ops : Array Oper} {Q : Exit → Act → World → Prop} {rest : List Oper} {vs : List Value} {g off e : Nat} {xs : List Value} (ho : o.op = .store t x y) (hx : evM M x = some (.pointer (some ⟨g, off, none⟩))) (hy : evM M y = some (.agg vs.toArray)) (hz : szB P t = some vs.length) (hr : RowL w g e xs) (hl : off + vs.length ≤ xs.length) (h1 : ∀ u ∈ vs, u.oneCell' = true) (hd : o.dst = none) (hg : wantB ops M o.guard = some true)
    (k : ∀ w1, RowL w1 g e (xs.take off ++ vs ++ xs.drop (off + vs.length)) → w.grownBy w1 (some g) → w1.heap.size = w.heap.size → LL r P ops Q n D M rest w1) : LL r P ops Q n D M (o :: rest) w := by
  obtain ⟨w1, h2, h3, h4, h5⟩ := I.stN (t := t) hz hr hl h1
  exact LL.unit (R.store ho hx hy h2) hd (by rw [ho]; rfl) hg (k _ h3 h4 h5)
theorem below_drew {w : World} : Below w.heap.size w w.drew := (Below.refl _ w).drew
end

/-! Compared values that are no numbers. -/
section
variable {P : Program} {w : World} {o : Oper} {n : Nat} {D : List Deferred} {M : Slots} {x y : Operand} {t u : TypeId} {vx vy : Value}
def isPtr (P : Program) (t : TypeId) : Bool := match P.underlying t with | some (.pointer _) => true | _ => false
def isStr (P : Program) (t : TypeId) : Bool := match P.underlying t with | some .string => true | _ => false
def isFn (P : Program) (t : TypeId) : Bool := match P.underlying t with | some (.func _ _ _) => true | _ => false
theorem equal_ptr_nil {a : Option Addr} (h : isPtr P t = true) : (Op.equal t (.pointer a) (.pointer none)).run P w = .ok a.isNone w := by
  unfold isPtr at h
  cases hu : P.underlying t with
  | none => rw [hu] at h; cases h
  | some d =>
    rw [hu] at h
    cases d <;> try (cases h; done)
    unfold Op.equal Op.maxDepth Op.equalIn
    cases a <;> simp [run_underlying hu]
theorem equal_fn_nil {f : Fn} {c1 c2 : Array Value} (h : isFn P t = true) : (Op.equal t (.func f c1 c2) .nilFunc).run P w = .ok false w := by
  unfold isFn at h
  cases hu : P.underlying t with
  | none => rw [hu] at h; cases h
  | some d =>
    rw [hu] at h
    cases d <;> try (cases h; done)
    unfold Op.equal Op.maxDepth Op.equalIn
    simp [run_underlying hu]
theorem I.eqOf {b : Bool} (hne : ∀ k a k' c, ¬ (vx = .int k a ∧ vy = .int k' c)) (hagg : ∀ c, vx ≠ .agg c) (h : (Op.equal t vx vy).run P w = .ok b w) (hk : (∃ p q, vx = .pointer p ∧ vy = .pointer q) ∨ (∃ a l c a' l' c', vx = .slice a l c ∧ vy = .slice a' l' c') ∨ (∃ f c1 c2, vx = .func f c1 c2 ∧ vy = .nilFunc) ∨ (∃ a b, vx = .bool a ∧ vy = .bool b)) :
    ((do eqGuard .eql t x y vx vy; binOp .eql t vx vy) : Sem Value).run P w = .ok (.bool b) w ∧ ((do eqGuard .neq t x y vx vy; binOp .neq t vx vy) : Sem Value).run P w = .ok (.bool (!b)) w := by
  rcases hk with ⟨p, q, rfl, rfl⟩ | ⟨a, l, c, a', l', c', rfl, rfl⟩ | ⟨f, c1, c2, rfl, rfl⟩ | ⟨a, b', rfl, rfl⟩ <;> (constructor <;> simp [eqGuard, binOp, h])
theorem R.eqPtr {a : Option Addr} {b : Bool} (ho : o.op = .binOp .eql t x y u) (hx : evM M x = some (.pointer a)) (hy : evM M y = some (.pointer none)) (h : isPtr P t = true) (hb : a.isNone = b) : Runs P n D M o w (.value (.bool b)) w :=
  R.bin ho hx hy (by rw [← hb]; exact (I.eqOf (by rintro _ _ _ _ ⟨h, _⟩; cases h) (by rintro _ h; cases h) (equal_ptr_nil h) (.inl ⟨_, _, rfl, rfl⟩)).1)
theorem R.eqFn {f : Fn} {c1 c2 : Array Value} (ho : o.op = .binOp .eql t x y u) (hx : evM M x = some (.func f c1 c2)) (hy : evM M y = some .nilFunc) (h : isFn P t = true) : Runs P n D M o w (.value (.bool false)) w :=
  R.bin ho hx hy (I.eqOf (by rintro _ _ _ _ ⟨h, _⟩; cases h) (by rintro _ h; cases h) (equal_fn_nil h) (.inr (.inr (.inl ⟨_, _, _, rfl, rfl⟩)))).1
end

/-! Words. -/
section
variable {P : Program} {w : World} {o : Oper} {n : Nat} {D : List Deferred} {M : Slots} {x y : Operand} {t u : TypeId} {a b : Nat}
theorem R.addU {z : Nat} (ho : o.op = .binOp .add t x y u) (hx : evM M x = some (.int .u64 (a : Int))) (hy : evM M y = some (.int .u64 (b : Int))) (e : (a + b) % 18446744073709551616 = z) : Runs P n D M o w (.value (.int .u64 (z : Int))) w :=
  R.bin ho hx hy (by
    have f : IntKind.u64.wrap ((a : Int) + (b : Int)) = (z : Int) := by rw [IntKind.wrap_u64, ← e]; omega
    simp [go_sem, f])
theorem R.addUN (ho : o.op = .binOp .add t x y u) (hx : evM M x = some (.int .u64 (a : Int))) (hy : evM M y = some (.int .u64 (b : Int))) (e : a + b < 18446744073709551616) : Runs P n D M o w (.value (.int .u64 ((a + b : Nat) : Int))) w :=
  R.addU ho hx hy (Nat.mod_eq_of_lt e)
end
theorem R.buildV {P : Program} {w : World} {o : Oper} {n : Nat} {D : List Deferred} {M : Slots} {t : TypeId} {ps : Array (Nat × Operand)} {vs : List (Nat × Value)} {v : Value} (ho : o.op = .build t ps) (hx : evpM M ps.toList = some vs) (hr : ∀ w, (Instr.build t vs.toArray).run P w = .ok v w) : Runs P n D M o w (.value v) w := R.build' ho hx (hr w)
/-! With a constant. -/
section
variable {P : Program} {w : World} {o : Oper} {n : Nat} {D : List Deferred} {M : Slots} {x y : Operand} {t u : TypeId} {a b : Nat}
theorem R.addNc (hlit : Nat.ble b 18446744073709551616 = true) (ho : o.op = .binOp .add t x y u) (hx : evM M x = some (.int .i64 (a : Int))) (hy : evM M y = some (.int .i64 (@OfNat.ofNat Int b instOfNat))) (h : a + (@OfNat.ofNat Nat b (instOfNatNat b)) ≤ 9223372036854775807) : Runs P n D M o w (.value (.int .i64 ((a + (@OfNat.ofNat Nat b (instOfNatNat b)) : Nat) : Int))) w := R.addN (b := b) ho hx hy h
theorem I.ixS1c {e bl off len cap i : Nat} (hlit : Nat.ble i 18446744073709551616 = true) (h : slB P t = some (e, 1)) (hi : (@OfNat.ofNat Nat i (instOfNatNat i)) < len) : (Instr.indexAt t (.slice (some ⟨bl, off, none⟩) len cap) (.int .i64 (@OfNat.ofNat Int i instOfNat))).run P w = .ok (.pointer (some ⟨bl, off + (@OfNat.ofNat Nat i (instOfNatNat i)), none⟩)) w := I.ixS1 (i := i) h hi
end

/-! Slices that the call makes. -/
section
variable {P : Program} {w : World} {o : Oper} {n : Nat} {D : List Deferred} {M : Slots} {t T e : TypeId} {z : Value} {bytes : Nat} {r : Option Nat} {ops : Array Oper} {Q : Exit → Act → World → Prop} {rest : List Oper}
/-- A literal. -/
theorem LL.lit {ps : Array (Nat × Operand)} {k : Nat} {vs : List (Nat × Value)} (cs : List Value) (len : Nat) (ho : o.op = .buildSlice t k ps) (hx : evpM M ps.toList = some vs) (hr : ∀ w, (Instr.buildSlice t k vs.toArray).run P w = .ok (.slice (some ⟨w.heap.size, 0, none⟩) len len) (w.alloc (.cells cs.toArray e))) (hd : dstB n o.dst = true) (hg : wantB ops M o.guard = some true)
    (k : ∀ w1 g, g = w.heap.size → RowL w1 g e cs → w1.heap.size = g + 1 → Below w.heap.size w w1 → LL r P ops Q n D (putM M o.dst (.slice (some ⟨g, 0, none⟩) len len)) rest w1) : LL r P ops Q n D M (o :: rest) w :=
  LL.val (R.buildSlice ho hx (hr w)) hd (by rw [ho]; rfl) hg (k _ _ rfl (RowL.new w e cs) (by simp) (Below.alloc0 w _))
/-- append(s, x..) where the call owns s. -/
theorem LL.append {xs : Array Operand} {v vx : Value} {base m : Nat} {us ys : List Value} (ho : o.op = .call { callee := .builtin .append, args := xs, argTypes := #[T, T] }) (hx : evsM M xs.toList = some [v, vx]) (I : El P T e z bytes) (hown : w.ownsRow base e 1 v m us) (hr : Reads w vx ys) (hone : ∀ u ∈ ys, u.oneCell' = true)
    (h63 : m + ys.length ≤ maxLen) (hb : (m + ys.length) * bytes ≤ 140737488355328) (hbase : base ≤ w.heap.size) (hd : dstB n o.dst = true) (hg : wantB ops M o.guard = some true)
    (k : ∀ v' w', w'.ownsRow base e 1 v' (m + ys.length) (us ++ ys) → w.grownBy w' v.ownBlock → LL r P ops Q n D (putM M o.dst v') rest w') : LL r P ops Q n D M (o :: rest) w := by
  obtain ⟨v', w', h1, h2, h3⟩ := run_append_all I o.type hown hr hone h63 hb hbase
  refine LL.val (v := v') (R.builtin ho hx fun b => ?_) hd (by rw [ho]; rfl) hg (k v' w' h2 h3)
  unfold builtin
  simp only [Sem.run_bind, h1, Result.andThen_ok, Sem.run_pure]
end

/-! Texts. -/
section
variable {P : Program} {w : World} {o : Oper} {n : Nat} {D : List Deferred} {M : Slots} {x y : Operand} {t u : TypeId} {a b : ByteArray}
theorem R.eqStr {c : Bool} (ho : o.op = .binOp .eql t x y u) (hx : evM M x = some (.string a)) (hy : evM M y = some (.string b)) (hc : (a.toList == b.toList) = c) : Runs P n D M o w (.value (.bool c)) w :=
  R.bin ho hx hy (by simp [eqGuard, binOp, Op.stringOp, ← hc])
end
end Go.Proofs.YtompfnnmiccipaaGreatDoor
/- Ranges over functions, in the walk by explicit steps. Over any program. -/
namespace Go.Proofs.YtompfnnmiccipaaGreatDoor
set_option linter.unusedVariables false
set_option linter.unusedSimpArgs false
open Go.RowKit Go.Shelf

/-- A function whose body ranges over functions. -/
theorem X.fnM {P : Program} {f : FuncId} {fn : Func} {c : Code} {args : Array Value} {w : World} {R : Ending → World → Prop} {n : Nat} (hf : P.funcs[f]? = some fn) (hb : fn.body = some c) (hn : fn.ntmps = n) (ha : Nat.ble args.size n = true)
    (h : CC none P (calmP (bodyPostM Fence.wide 3 P fn R)) n [] (argM args) c w) : Calls P f args w R := by
  subst hn
  exact calls_marks hf hb ((wpIn_wide (n := 3)).1 (h.h _ (Fr.start args _ (by simpa using ha))))

section
variable {P : Program} {fn : Func} {R : Ending → World → Prop} {n : Nat} {M : Slots} {w : World}
def mark (E : Nat) : Deferred := { target := .collected E, args := #[] }
/-- What is left of a world when the range's mark is taken. -/
def taken (E : Nat) (w : World) : World := w.putObj E (.deferred none)
theorem retM1 {a : Act} {vs : List Value} {E : Nat} (F : Fr n [mark E] M a) (hE : w.heap[E]? = some (.deferred (some []))) (h : resM M fn.results.toList = some vs) (h3 : Nat.ble vs.length 3 = true) (hR : R (.returned (resV vs)) (taken E w)) : LeavesInM Fence.wide 3 P fn a.tmps R a.defers .returning w := by
  rw [F.defers]
  refine ⟨by simp, .inl ⟨_, _, rfl, run_takeDeferred hE, ?_⟩⟩
  exact ⟨_, results_run (P := P) F h (by simpa using h3), hR⟩
theorem EE.end1 {E : Nat} (hE : w.heap[E]? = some (.deferred (some []))) (vs : List Value) (h : resM M fn.results.toList = some vs) (h3 : Nat.ble vs.length 3 = true) (hR : R (.returned (resV vs)) (taken E w)) : EE (calmP (bodyPostM Fence.wide 3 P fn R)) n [mark E] M .normal w := EE.mk fun a F => retM1 F hE h h3 hR
theorem taken_bel {B E : Nat} {X W : World} (h : Below B X W) (hE : B ≤ E) (hs : B ≤ X.heap.size) : Below B X (taken E W) :=
  h.grown (grownBy_putObj' _ _ _) (Nat.le_trans hs h.size) (fun k e => by cases e; exact hE)
end

/-- The parameters of a round, laid into slots. -/
def psM (M : Slots) : List Tmp → List Value → Slots
  | p :: ps, v :: vs => psM (up M p v) ps vs
  | _, _ => M
theorem psM_fr {n : Nat} {D : List Deferred} : ∀ (ps : List Tmp) (vs : List Value) (M : Slots) (tm : Array Value) (d : List Deferred), Fr n D M ⟨tm, d⟩ → (ps.all fun p => Nat.blt p n) = true → Fr n D (psM M ps vs) ⟨(ps.zip vs).foldl (fun t (p, v) => t.setIfInBounds p v) tm, d⟩
  | [], _, M, tm, d, F, _ => by simpa [psM] using F
  | _ :: _, [], M, tm, d, F, _ => by simpa [psM] using F
  | p :: ps, v :: vs, M, tm, d, F, h => by
    simp only [List.all_cons, Bool.and_eq_true] at h
    have := F.put (some p) v h.1
    exact psM_fr ps vs _ _ d this h.2

section
variable {α : Type} {P : Program} {n : Nat} {D : List Deferred} {M : Slots}
/-- A range over a function, outermost, of which a round may break at most. -/
theorem CC.range {id gf : Nat} {Dk : Nat → Prop} {g : Operand} {ps : Array Tmp} {assign body : Code} {Q : Exit → Act → World → Prop} {w w0 : World} {lb : List Value} {encs : α → List Value} {S : List α → Prop}
    (hg : evM M g = some (.func (.func gf) #[] lb.toArray)) (eg : entB P gf = true) (hseq : Gives P gf lb.toArray (fun x => (encs x).toArray) Dk S w0) (hb : Below w0.heap.size w0 w) (hn : ∀ k, Dk k → k < w.heap.size) (hps : ∀ x, (encs x).length = ps.size) (hpn : (ps.toList.all fun p => Nat.blt p n) = true)
    (I Ix : Nat → List α → World → Prop) (A : World → Prop) (hI : ∀ m, Abides w.heap.size m (I m)) (hIx : ∀ m, Abides w.heap.size m (Ix m)) (h0 : ∀ m, I m [] w) (hIA : ∀ m xs W, S xs → I m xs W → A W) (hIxA : ∀ m pre W, Part S pre → Ix m pre W → A W)
    (Mx : α → Slots)
    (hassign : ∀ (l m : Nat) pre x W (K : Act → World → Prop), w.heap.size ≤ m → I m pre W → (∀ a' W', Stays w.heap.size m W W' → Keeps Dk W W' → I m pre W' → Fr n [] (Mx x) a' → K a' W') → CC (some l) P (Exit.then K (fun _ _ _ => False)) n [] (psM M ps.toList (encs x)) assign W)
    (hbody : ∀ (l m : Nat) pre x W, w.heap.size ≤ m → w.heap.size ≤ l → (∃ r, W.heap[l]? = some (.loop r)) → I m pre W → Part S (pre ++ [x]) → CC (some l) P (roundP w.heap.size m Dk I (fun c m pre W => c = .exit id ∧ Ix m pre W) (pre ++ [x]) W) n [] (Mx x) body W)
    (hafter : ∀ (E : Nat) W, w.heap.size ≤ E → A W → W.heap[E]? = some (.deferred (some [])) → EE Q n (mark E :: D) M .normal W) :
    CC none P (Exit.inBlock id Q) n D M (.rangeFunc g ps assign body) w := CC.mk fun a F => by
  refine range_break (gf := gf) (lb := lb.toArray) (F.ev hg) (ent_of eg) hseq hb hn (fun x => by simpa using hps x) I Ix A hI hIx h0 (fun x a' _ => Fr n [] (Mx x) a') (fun _ _ _ _ _ _ hs _ _ => hs) hIA hIxA ?_ ?_ ?_
  · intro l m pre x W K hm hi hK
    refine (hassign l m pre x W K hm hi fun a' W' h1 h2 h3 h4 => hK a' W' h1 h2 h3 h4).h _ ?_
    have F0 : Fr n [] M ⟨a.tmps, []⟩ := ⟨F.size, rfl, F.get⟩
    have := psM_fr ps.toList (encs x) M a.tmps [] F0 hpn
    have e : (ps.zip (encs x).toArray).foldl (fun t (p, v) => t.setIfInBounds p v) a.tmps = (ps.toList.zip (encs x)).foldl (fun t (p, v) => t.setIfInBounds p v) a.tmps := by
      obtain ⟨l⟩ := ps
      rw [← Array.foldl_toList]
      simp
    rw [e]
    exact this
  · intro l m pre x a' W hm hl hr hi hax hp
    exact (hbody l m pre x W hm hl hr hi hp).h a' hax
  · intro E W hE hA hd
    exact (hafter E W hE hA hd).h _ ⟨F.size, by rw [F.defers]; rfl, F.get⟩
theorem EE.thenK {K : Act → World → Prop} {Q : Exit → Act → World → Prop} {w : World} (h : ∀ a, Fr n D M a → K a w) : EE (Exit.then K Q) n D M .normal w := EE.mk fun a F => h a F
theorem roundWr {r : Option Nat} {m m' l : Nat} {f : FuncId} {tmps : Array Value} {assign body : Code} {w : World} {R : Ending → World → Prop} (h : RoundIn Fence.wide m P l f tmps assign body w R) : RoundIn (Wr r) m' P l f tmps assign body w R := ⟨trivial, fun c cs _ => h.2 c cs (room_wide _)⟩
/-- An iterator gives an element. -/
theorem LL.yield {r : Option Nat} {ops : Array Oper} {Q : Exit → Act → World → Prop} {rest : List Oper} {o : Oper} {w : World} {x : Operand} {xs : Array Operand} {ts : Array TypeId} {vs : List Value} {l : Nat} {R : Ending → World → Prop} (ho : o.op = .call { callee := .value x, args := xs, argTypes := ts }) (hf : evM M x = some (.func (.yield l) #[] #[])) (hx : evsM M xs.toList = some vs) (hd : dstB n o.dst = true) (hg : wantB ops M o.guard = some true)
    (hY : YieldAt Fence.wide 3 P l vs.toArray w R) (k : ∀ e w', R e w' → ∃ v, e = .returned v ∧ LL r P ops Q n D (putM M o.dst v) rest w') : LL r P ops Q n D M (o :: rest) w := LL.mk fun a F => by
  obtain ⟨fn, tmps, assign, body, hy, hR⟩ := hY
  refine wpListIn_step fun K hK => ?_
  rw [if_pos (F.want hg)]
  have hm := evs_mapA F hx
  refine wpIn_of_run (x := .round l fn tmps assign body) (w' := w) (by rw [ho]; rfl) ?_ ⟨fun h => (by cases h), roundWr (hR.mono fun e w' hR' => ?_)⟩
  · unfold execOp
    simp only [ho, resolve, F.ev hf, hm, Deferred.ofValue, invoke, Sem.run_bind, Sem.run_pure, Result.andThen_ok, Array.empty_append]
    exact hy
  · obtain ⟨v, rfl, hk⟩ := k e w' hR'
    exact hK _ _ (hk.h _ (F.put _ _ hd))
end
end Go.Proofs.YtompfnnmiccipaaGreatDoor
/- Regions that draw their order and hold steps that make memory: what reads only goes first, the rest in each order that may be. Over any program. -/
namespace Go.Proofs.YtompfnnmiccipaaGreatDoor
set_option linter.unusedVariables false
set_option linter.unusedSimpArgs false
open Go.RowKit Go.Shelf

section
variable {P : Program} {ops : Array Oper} {Q : Exit → Act → World → Prop} {ok : World → Prop} {r : Option Nat}

/-- One step, whatever it is. -/
def actR (P : Program) (o : Oper) (K : Act → World → Prop) (a : Act) (w : World) : Prop :=
  (∃ v w', (execOp a.eval o).run P w = .ok (.value v) w' ∧ K (a.put o.dst v) w') ∨
  (∃ w', (execOp a.eval o).run P w = .ok .skip w' ∧ K (a.put o.dst undef) w') ∨
  (∃ f args w' R, (execOp a.eval o).run P w = .ok (.enter f args) w' ∧ Calls P f args w' R ∧ ∀ e w'', R e w'' → ∃ v, e = .returned v ∧ K (a.put o.dst v) w'')
def stepR (P : Program) (ops : Array Oper) (ok : World → Prop) (i : Nat) (K : Act → World → Prop) (a : Act) (w : World) : Prop :=
  match ops[i]? with
  | none => K a w
  | some o => if Region.wanted o (yielded ops a.tmps) then actR P o (fun a' w' => ok w' ∧ K a' w') a w else K (a.put o.dst undef) w
def AnyR (P : Program) (ops : Array Oper) (ok : World → Prop) (Q : Exit → Act → World → Prop) : Nat → Array Bool → Act → World → Prop
  | 0, listed, a, w => Region.ready .any ops listed = [] ∧ Q .normal a w
  | f + 1, listed, a, w => (Region.ready .any ops listed = [] → Q .normal a w) ∧ ∀ i ∈ Region.ready .any ops listed, stepR P ops ok i (AnyR P ops ok Q f (listed.setIfInBounds i true)) a w

theorem actR_mono {o : Oper} {K K' : Act → World → Prop} {a : Act} {w : World} (h : ∀ a w, K a w → K' a w) (hh : actR P o K a w) : actR P o K' a w := by
  rcases hh with ⟨v, w', h1, h2⟩ | ⟨w', h1, h2⟩ | ⟨f, args, w', R, h1, h2, h3⟩
  · exact .inl ⟨v, w', h1, h _ _ h2⟩
  · exact .inr (.inl ⟨w', h1, h _ _ h2⟩)
  · exact .inr (.inr ⟨f, args, w', R, h1, h2, fun e w'' hR => by obtain ⟨v, he, hk⟩ := h3 e w'' hR; exact ⟨v, he, h _ _ hk⟩⟩)
theorem stepR_mono {i : Nat} {K K' : Act → World → Prop} {a : Act} {w : World} (h : ∀ a w, K a w → K' a w) (hh : stepR P ops ok i K a w) : stepR P ops ok i K' a w := by
  unfold stepR at *
  split
  · rename_i ho; simp only [ho] at hh; exact h _ _ hh
  · rename_i o ho
    simp only [ho] at hh
    split
    · rename_i hw; rw [if_pos hw] at hh; exact actR_mono (fun a w hk => ⟨hk.1, h _ _ hk.2⟩) hh
    · rename_i hw; rw [if_neg hw] at hh; exact h _ _ hh
theorem wpIn_of_actR {o : Oper} {K : Act → World → Prop} {a : Act} {w : World} (hdf : dfB o.op = false) (hh : actR P o K a w) : o.wpIn (Wr r) 3 P a w K Q := by
  rcases hh with ⟨v, w', h1, h2⟩ | ⟨w', h1, h2⟩ | ⟨f, args, w', R, h1, h2, h3⟩
  · exact wpIn_of_run hdf h1 h2
  · exact wpIn_of_run hdf h1 h2
  · exact wpIn_of_run hdf h1 ⟨fun h => (by cases h), callsWr (h2.mono fun e w'' hR => by obtain ⟨v, rfl, hk⟩ := h3 e w'' hR; exact hk)⟩
theorem wpAny_of_R (hdf : ∀ (j : Nat) (o : Oper), ops[j]? = some o → dfB o.op = false) : ∀ (f : Nat) (listed : Array Bool) (a : Act) (w : World), AnyR P ops ok Q f listed a w → wpAnyIn (Wr r) 3 P .any ops Q f listed a w
  | 0, _, _, _, h => h
  | f + 1, listed, a, w, h => ⟨h.1, fun i hi => by
    have h2 := h.2 i hi
    unfold stepR at h2
    unfold wpOpIn
    split
    · rename_i ho; simp only [ho] at h2; exact wpAny_of_R hdf f _ _ _ h2
    · rename_i o ho
      simp only [ho] at h2
      split
      · rename_i hw
        rw [if_pos hw] at h2
        exact wpIn_of_actR (hdf _ _ ho) (actR_mono (fun a' w' hk => wpAny_of_R hdf f _ _ _ hk.2) h2)
      · rename_i hw
        rw [if_neg hw] at h2
        exact ⟨about_wr a, wpAny_of_R hdf f _ _ _ h2⟩⟩

/-- It yields this, in whatever world that may come. -/
def Pure (P : Program) (ops : Array Oper) (ok : World → Prop) (o : Oper) (v : Value) (a : Act) : Prop :=
  (Region.wanted o (yielded ops a.tmps) = true ∧ ∀ w, ok w → (execOp a.eval o).run P w = .ok (.value v) w ∨ ∃ f args, (execOp a.eval o).run P w = .ok (.enter f args) w ∧ Calls P f args w (fun e w' => e = .returned v ∧ w' = w)) ∨
  (Region.wanted o (yielded ops a.tmps) = false ∧ v = undef)
theorem Pure.step {i : Nat} {o : Oper} {v : Value} {a : Act} {w : World} (hi : ops[i]? = some o) (hy : Pure P ops ok o v a) (hw : ok w) {K : Act → World → Prop} (h : K (a.put o.dst v) w) : stepR P ops ok i K a w := by
  unfold stepR
  simp only [hi]
  rcases hy with ⟨hwt, hv⟩ | ⟨hwt, rfl⟩
  · rw [if_pos hwt]
    rcases hv w hw with hv | ⟨f, args, hv, hc⟩
    · exact .inl ⟨v, w, hv, hw, h⟩
    · exact .inr (.inr ⟨f, args, w, _, hv, hc, fun e w' ⟨he, hw'⟩ => ⟨v, he, by rw [hw']; exact ⟨hw, h⟩⟩⟩)
  · rw [if_neg (by rw [hwt]; simp)]; exact h
theorem Pure.same {o : Oper} {v : Value} {a a' : Act} (hy : Pure P ops ok o v a) (he : execOp a'.eval o = execOp a.eval o) (hw : Region.wanted o (yielded ops a'.tmps) = Region.wanted o (yielded ops a.tmps)) : Pure P ops ok o v a' := by
  unfold Pure at *
  rw [he, hw]
  exact hy
theorem stepR_put {j : Nat} {oi oj : Oper} {v : Value} {a : Act} {w : World} (hj : ops[j]? = some oj) (hap : oi.apart ops oj = true) (hsi : ∀ cs b, oi.op ≠ .select cs b) (hsj : ∀ cs b, oj.op ≠ .select cs b) (hw : ok w) {K : Act → World → Prop}
    (hy : Pure P ops ok oi v a) (h : stepR P ops ok j K (a.put oi.dst v) w) : stepR P ops ok j (fun a' w' => Pure P ops ok oi v a' ∧ ok w' ∧ K (a'.put oi.dst v) w') a w := by
  obtain ⟨h1, h2, h3⟩ := Oper.apart_spec hap
  have keep : ∀ (a : Act), Pure P ops ok oi v a → ∀ u, Pure P ops ok oi v (a.put oj.dst u) := fun a hy u =>
    hy.same (execOp_put oi hsi a oj.dst u h3) (wanted_put oi a oj.dst u h3)
  unfold stepR at *
  simp only [hj] at *
  rw [wanted_put oj a oi.dst v h1] at h
  split
  · rename_i hwt
    rw [if_pos hwt] at h
    unfold actR at *
    rw [execOp_put oj hsj a oi.dst v h1] at h
    rcases h with ⟨u, w', e1, e2, e3⟩ | ⟨w', e1, e2, e3⟩ | ⟨f, args, w', R, e1, e2, e3⟩
    · exact .inl ⟨u, w', e1, e2, keep a hy u, e2, by rw [← Act.put_comm a v u h2]; exact e3⟩
    · exact .inr (.inl ⟨w', e1, e2, keep a hy _, e2, by rw [← Act.put_comm a v undef h2]; exact e3⟩)
    · exact .inr (.inr ⟨f, args, w', R, e1, e2, fun e w'' hR => by
        obtain ⟨u, he, hk, hk'⟩ := e3 e w'' hR
        exact ⟨u, he, hk, keep a hy u, hk, by rw [← Act.put_comm a v u h2]; exact hk'⟩⟩)
  · rename_i hwt
    rw [if_neg hwt] at h
    exact ⟨keep a hy _, hw, by rw [← Act.put_comm a v undef h2]; exact h⟩
theorem pure_first {i : Nat} {oi : Oper} {v : Value} (hi : ops[i]? = some oi) (hsel : ∀ (j : Nat) (o : Oper) cs b, ops[j]? = some o → o.op ≠ .select cs b) :
    ∀ (f : Nat) (listed : Array Bool) (a : Act) (w : World),
      (∀ j oj, ops[j]? = some oj → j ≠ i → listed.getD j true = false → (∀ e ∈ oj.after, Region.binds .any e = true → e.on ≠ i) → oi.apart ops oj = true) →
      i ∈ Region.ready .any ops listed → ok w → Pure P ops ok oi v a → AnyR P ops ok Q f (listed.setIfInBounds i true) (a.put oi.dst v) w → AnyR P ops ok Q (f + 1) listed a w := by
  intro f
  induction f with
  | zero =>
    intro listed a w _ hr hw hy H
    refine ⟨fun h => (by rw [h] at hr; cases hr), fun j hj => ?_⟩
    by_cases hji : j = i
    · subst hji; exact hy.step hi hw H
    · have := ready_mono hj hji
      rw [H.1] at this
      cases this
  | succ f ih =>
    intro listed a w hfree hr hw hy H
    refine ⟨fun h => (by rw [h] at hr; cases hr), fun j hj => ?_⟩
    by_cases hji : j = i
    · subst hji; exact hy.step hi hw H
    · have h1 := H.2 j (ready_mono hj hji)
      obtain ⟨hjun, oj, hoj, hall⟩ := mem_ready.1 hj
      have hnot : ∀ e ∈ oj.after, Region.binds .any e = true → e.on ≠ i := fun e he hb heq => by
        have h1 := hall e he hb
        have h0 := (mem_ready.1 hr).1
        rw [heq] at h1
        rcases Nat.lt_or_ge i listed.size with h' | h'
        · simp [h'] at h0 h1; rw [h0] at h1; cases h1
        · simp [Array.getElem?_eq_none h'] at h1
      have h2 := stepR_put hoj (hfree j oj hoj hji hjun hnot) (fun cs b => hsel i oi cs b hi) (fun cs b => hsel j oj cs b hoj) hw hy h1
      have hfree' : ∀ k ok', ops[k]? = some ok' → k ≠ i → (listed.setIfInBounds j true).getD k true = false →
          (∀ e ∈ ok'.after, Region.binds .any e = true → e.on ≠ i) → oi.apart ops ok' = true := fun k ok' hk hki hun hno => by
        refine hfree k ok' hk hki ?_ hno
        by_cases hjk : j = k
        · subst hjk; exact hjun
        · rw [getD_set_ne true hjk] at hun; exact hun
      refine stepR_mono (fun a' w' h3 => ih (listed.setIfInBounds j true) a' w' hfree' (ready_mono hr (Ne.symm hji)) h3.2.1 h3.1 ?_) h2
      rw [Array.setIfInBounds_comm _ _ hji]
      exact h3.2.2
end

/-- What is left of a region, these done. -/
structure AA (P : Program) (ops : Array Oper) (ok : World → Prop) (Q : Exit → Act → World → Prop) (n : Nat) (D : List Deferred) (M : Slots) (f : Nat) (listed : Array Bool) (w : World) : Prop where
  h : ∀ a, Fr n D M a → AnyR P ops ok Q f listed a w
/-- One step of it. -/
structure SR (P : Program) (ops : Array Oper) (ok : World → Prop) (i : Nat) (K : Slots → World → Prop) (n : Nat) (D : List Deferred) (M : Slots) (w : World) : Prop where
  h : ∀ (K' : Act → World → Prop), (∀ M w, K M w → ∀ a, Fr n D M a → K' a w) → ∀ a, Fr n D M a → stepR P ops ok i K' a w
def selB (l : List Oper) : Bool := l.all fun o => !dfB o.op
def rfB (ops : Array Oper) (listed : Array Bool) (i : Nat) : Bool := (Region.ready .any ops listed).contains i && Region.free .any ops listed i && Region.noSelect ops

section
variable {P : Program} {l : List Oper} {ops : Array Oper} {Q : Exit → Act → World → Prop} {ok : World → Prop} {r : Option Nat} {n f : Nat} {D : List Deferred} {M : Slots} {w w' : World} {listed : Array Bool} {o : Oper} {v : Value}

theorem CC.free {id : Nat} (ok : World → Prop) (hm : P.follows .mixedOrders = true) (hB : selB l = true) (h : AA P l.toArray ok Q n D M l.length (Array.replicate l.length false) w.drew) : CC r P Q n D M (.region id l.toArray true) w := CC.mk fun a F => by
  have hdf : ∀ (j : Nat) (o : Oper), l.toArray[j]? = some o → dfB o.op = false := fun j o ho => by
    have := List.all_eq_true.1 hB o (by simpa using List.mem_of_getElem? (by simpa using ho))
    simpa using this
  refine wpIn_region_any hm (wpAny_of_R (ok := ok) hdf _ _ _ _ ?_)
  simpa using h.h a F
theorem AA.pure (i : Nat) (hi : ops[i]? = some o) (hw : ok w) (hB : rfB ops listed i = true) (hr : ∀ w', ok w' → Runs P n D M o w' (.value v) w') (hd : dstB n o.dst = true) (hg : wantB ops M o.guard = some true) (k : AA P ops ok Q n D (putM M o.dst v) f (listed.setIfInBounds i true) w) : AA P ops ok Q n D M (f + 1) listed w := AA.mk fun a F => by
  simp only [rfB, Bool.and_eq_true] at hB
  exact pure_first hi (Region.noSelect_spec hB.2) f listed a w (Region.free_spec hi hB.1.2) (by simpa using hB.1.1) hw (.inl ⟨F.want hg, fun w' hw' => .inl (hr w' hw' a F)⟩) (k.h _ (F.put _ _ hd))
theorem AA.off (i : Nat) (hi : ops[i]? = some o) (hw : ok w) (hB : rfB ops listed i = true) (hd : dstB n o.dst = true) (hg : wantB ops M o.guard = some false) (k : AA P ops ok Q n D (putM M o.dst undef) f (listed.setIfInBounds i true) w) : AA P ops ok Q n D M (f + 1) listed w := AA.mk fun a F => by
  simp only [rfB, Bool.and_eq_true] at hB
  exact pure_first hi (Region.noSelect_spec hB.2) f listed a w (Region.free_spec hi hB.1.2) (by simpa using hB.1.1) hw (.inr ⟨F.want hg, rfl⟩) (k.h _ (F.put _ _ hd))
theorem AA.done (hr : Region.ready .any ops listed = []) (k : EE Q n D M .normal w) : AA P ops ok Q n D M f listed w := AA.mk fun a F => by
  cases f with
  | zero => exact ⟨hr, k.h a F⟩
  | succ f => exact ⟨fun _ => k.h a F, fun i hi => by rw [hr] at hi; cases hi⟩
theorem AA.fork (is : List Nat) (hr : Region.ready .any ops listed = is) (hne : is ≠ []) (k : ∀ i ∈ is, SR P ops ok i (fun M w => AA P ops ok Q n D M f (listed.setIfInBounds i true) w) n D M w) : AA P ops ok Q n D M (f + 1) listed w := AA.mk fun a F =>
  ⟨fun h => absurd (hr.symm.trans h) hne, fun i hi => (k i (by rw [← hr]; exact hi)).h _ (fun _ _ hk a F => hk.h a F) a F⟩
theorem AA.one (i : Nat) (hr : Region.ready .any ops listed = [i]) (k : SR P ops ok i (fun M w => AA P ops ok Q n D M f (listed.setIfInBounds i true) w) n D M w) : AA P ops ok Q n D M (f + 1) listed w := .fork [i] hr (by simp) (fun j hj => by simp at hj; subst hj; exact k)
theorem SR.val {i : Nat} {K : Slots → World → Prop} (hi : ops[i]? = some o) (hr : Runs P n D M o w (.value v) w') (hd : dstB n o.dst = true) (hg : wantB ops M o.guard = some true) (hok : ok w') (k : K (putM M o.dst v) w') : SR P ops ok i K n D M w := SR.mk fun K' hK a F => by
  unfold stepR
  simp only [hi]
  rw [if_pos (F.want hg)]
  exact .inl ⟨v, w', hr a F, hok, hK _ _ k _ (F.put _ _ hd)⟩
theorem SR.call {g : FuncId} {args : Array Value} {R : Ending → World → Prop} {i : Nat} {K : Slots → World → Prop} (hi : ops[i]? = some o) (hr : Runs P n D M o w (.enter g args) w') (hd : dstB n o.dst = true) (hg : wantB ops M o.guard = some true) (hc : Calls P g args w' R) (k : ∀ e w'', R e w'' → ∃ v, e = .returned v ∧ ok w'' ∧ K (putM M o.dst v) w'') : SR P ops ok i K n D M w := SR.mk fun K' hK a F => by
  unfold stepR
  simp only [hi]
  rw [if_pos (F.want hg)]
  exact .inr (.inr ⟨g, args, w', R, hr a F, hc, fun e w'' hR => by
    obtain ⟨v, he, h1, h2⟩ := k e w'' hR
    exact ⟨v, he, h1, hK _ _ h2 _ (F.put _ _ hd)⟩⟩)
end
end Go.Proofs.YtompfnnmiccipaaGreatDoor
/- Slices of structs: elements of k cells. For any seat. -/
namespace Go.Proofs.YtompfnnmiccipaaGreatDoor
set_option linter.unusedVariables false
set_option linter.unusedSimpArgs false
open Go.RowKit Go.Shelf

/-- How a thing lies in k cells. -/
structure Enc {α : Type} (enc : α → List Value) (k : Nat) : Prop where
  len : ∀ t, (enc t).length = k
  one : ∀ t, ∀ u ∈ enc t, u.oneCell' = true
  pos : 0 < k

section
variable {α : Type} {enc : α → List Value} {k : Nat}
theorem Enc.flat (E : Enc enc k) (ts : List α) : (ts.flatMap enc).length = ts.length * k := by
  induction ts with
  | nil => simp
  | cons t ts ih => rw [List.flatMap_cons, List.length_append, ih, E.len, List.length_cons, Nat.add_mul]; omega
theorem Enc.ones (E : Enc enc k) (ts : List α) : ∀ u ∈ ts.flatMap enc, u.oneCell' = true := fun u hu => by
  obtain ⟨t, _, h⟩ := List.mem_flatMap.1 hu
  exact E.one t u h
theorem Enc.get (E : Enc enc k) : ∀ (ts : List α) (i : Nat) (t : α), ts[i]? = some t → ∀ c, c < k → (ts.flatMap enc)[i * k + c]? = (enc t)[c]?
  | [], i, t, h, _, _ => by simp at h
  | s :: ts, 0, t, h, c, hc => by
    simp at h
    subst h
    rw [List.flatMap_cons, Nat.zero_mul, Nat.zero_add, List.getElem?_append_left (by rw [E.len]; exact hc)]
  | s :: ts, i + 1, t, h, c, hc => by
    have h' : ts[i]? = some t := by simpa using h
    have hp : i * k + k + c - k = i * k + c := by omega
    rw [List.flatMap_cons, List.getElem?_append_right (by rw [E.len, Nat.add_mul]; omega), E.len, Nat.add_mul, Nat.one_mul, hp]
    exact Enc.get E ts i t h' c hc
theorem Enc.drop (E : Enc enc k) (ts : List α) (i : Nat) : (ts.flatMap enc).drop (i * k) = (ts.drop i).flatMap enc := by
  induction i generalizing ts with
  | zero => simp
  | succ i ih =>
    cases ts with
    | nil => simp
    | cons t ts =>
      have hp : (i + 1) * k = k + i * k := by rw [Nat.add_mul]; omega
      rw [List.flatMap_cons, hp, ← List.drop_drop, List.drop_left' (E.len t), ih]
      simp
theorem Enc.take (E : Enc enc k) (ts : List α) (i : Nat) : (ts.flatMap enc).take (i * k) = (ts.take i).flatMap enc := by
  induction i generalizing ts with
  | zero => simp
  | succ i ih =>
    cases ts with
    | nil => simp
    | cons t ts =>
      have hp : (i + 1) * k = k + i * k := by rw [Nat.add_mul]; omega
      have hl := E.len t
      rw [List.flatMap_cons, hp, List.take_append, List.take_of_length_le (by omega), hl, Nat.add_sub_cancel_left, ih]
      simp

/-- A slice that reads as these things. -/
def ReadsT (enc : α → List Value) (k : Nat) (w : World) (v : Value) (ts : List α) : Prop :=
  ∃ a cap, v = .slice a ts.length cap ∧ ts.length ≤ cap ∧ (ts ≠ [] → ∃ b off, a = some ⟨b, off, none⟩ ∧ b < w.heap.size ∧ ∀ j, j < ts.length * k → w.cell? ⟨b, off + j, none⟩ = (ts.flatMap enc)[j]?)
theorem ReadsT.nil (w : World) : ReadsT enc k w (.slice none 0 0) [] := ⟨none, 0, rfl, Nat.le_refl _, fun h => (h rfl).elim⟩
theorem ReadsT.below {w w' : World} {v : Value} {ts : List α} (h : ReadsT enc k w v ts) (hb : Below w.heap.size w w') : ReadsT enc k w' v ts := by
  obtain ⟨a, cap, e, hc, h⟩ := h
  refine ⟨a, cap, e, hc, fun hne => ?_⟩
  obtain ⟨b, off, ha, hlt, hcell⟩ := h hne
  exact ⟨b, off, ha, Nat.lt_of_lt_of_le hlt hb.size, fun j hj => (World.cell?_of_block (hb.block b hlt)).trans (hcell j hj)⟩
theorem ReadsT.grown {w w' : World} {v : Value} {ts : List α} {r : Nat} (h : ReadsT enc k w v ts) (hg : w.grownBy w' (some r)) (hap : ∀ (x : Addr) (n cap : Nat), v = .slice (some x) n cap → 0 < n → x.block ≠ r) : ReadsT enc k w' v ts := by
  obtain ⟨a, cap, e, hc, h'⟩ := h
  refine ⟨a, cap, e, hc, fun hne => ?_⟩
  obtain ⟨b, off, ha, hlt, hcell⟩ := h' hne
  have hb : b ≠ r := hap ⟨b, off, none⟩ ts.length cap (by rw [e, ha]) (List.length_pos_iff.2 hne)
  exact ⟨b, off, ha, Nat.lt_of_lt_of_le hlt hg.size, fun j hj => (World.cell?_of_block (hg.block b hlt (by simpa using hb))).trans (hcell j hj)⟩
theorem ReadsT.form {w : World} {v : Value} {ts : List α} {n : Nat} (h : ReadsT enc k w v ts) (hn : ts.length = n) : ∃ a cap, v = .slice a n cap ∧ n ≤ cap := by
  obtain ⟨a, cap, e, hc, _⟩ := h
  exact ⟨a, cap, by rw [e, hn], by omega⟩
/-- An element: where it lies. -/
theorem ReadsT.get (E : Enc enc k) {w : World} {a : Option Addr} {n cap : Nat} {ts : List α} (h : ReadsT enc k w (.slice a n cap) ts) {i : Nat} {t : α} (ht : ts[i]? = some t) :
    ∃ b off, a = some ⟨b, off, none⟩ ∧ b < w.heap.size ∧ Cells w ⟨b, off + i * k, none⟩ (enc t) := by
  obtain ⟨a', cap', e, _, h1⟩ := h
  cases e
  have hi : i < ts.length := (List.getElem?_eq_some_iff.1 ht).1
  obtain ⟨b, off, ha, hb, hc⟩ := h1 (by intro e; simp [e] at hi)
  refine ⟨b, off, ha, hb, fun c u hu => ?_⟩
  have hck : c < k := by have := (List.getElem?_eq_some_iff.1 hu).1; rwa [E.len] at this
  have hlt : i * k + c < ts.length * k := by
    have : (i + 1) * k ≤ ts.length * k := Nat.mul_le_mul_right _ hi
    rw [Nat.add_mul] at this
    omega
  rw [add_plain, Nat.add_assoc, hc _ hlt, E.get ts i t ht c hck, hu]
theorem Cells.at {w : World} {b o : Nat} {vs : List Value} (h : Cells w ⟨b, o, none⟩ vs) {j : Nat} {u : Value} (hu : vs[j]? = some u) : w.cell? ⟨b, o + j, none⟩ = some u := by
  have := h j u hu
  rwa [add_plain] at this
theorem Cells.below {w w' : World} {b o B : Nat} {vs : List Value} (h : Cells w ⟨b, o, none⟩ vs) (hb : Below B w w') (hlt : b < B) : Cells w' ⟨b, o, none⟩ vs := fun j u hu => by
  have := h j u hu
  rw [add_plain] at *
  exact (hb.cell (p := ⟨b, o + j, none⟩) hlt).trans this
theorem ReadsT.take (E : Enc enc k) {w : World} {a : Option Addr} {len cap : Nat} {ts : List α} (h : ReadsT enc k w (.slice a len cap) ts) (m : Nat) (hm : m ≤ len) (c : Nat) (hc : m ≤ c) : ReadsT enc k w (.slice a m c) (ts.take m) := by
  obtain ⟨a', cap', e', hc', h'⟩ := h
  cases e'
  refine ⟨a, c, by simp [Nat.min_eq_left hm], by simp; omega, fun hne => ?_⟩
  obtain ⟨b, off, ha, hb, hcell⟩ := h' (by intro e; simp [e] at hne)
  refine ⟨b, off, ha, hb, fun j hj => ?_⟩
  rw [List.length_take, Nat.min_eq_left hm] at hj
  have h2 : m * k ≤ ts.length * k := Nat.mul_le_mul_right _ hm
  rw [hcell j (by omega), ← E.take, List.getElem?_take, if_pos hj]

/-- A slice of things that the call owns. -/
def OwnsT (enc : α → List Value) (k : Nat) (w : World) (base : Nat) (e : TypeId) (v : Value) (ts : List α) : Prop := w.ownsRow base e k v ts.length (ts.flatMap enc)
theorem OwnsT.none (w : World) (base : Nat) (e : TypeId) : OwnsT enc k w base e (.slice none 0 0) [] := ⟨by simp, .inl ⟨rfl, rfl⟩⟩
theorem OwnsT.reads (E : Enc enc k) {w : World} {base e : Nat} {v : Value} {ts : List α} (h : OwnsT enc k w base e v ts) : ReadsT enc k w v ts := by
  rcases h.2 with ⟨rfl, h0⟩ | ⟨g, cap, cur, rfl, _, hg, hnc, _, hcs, htake⟩
  · have : ts = [] := List.eq_nil_of_length_eq_zero h0
    subst this
    exact ReadsT.nil w
  · refine ⟨_, cap, rfl, hnc, fun _ => ⟨g, 0, rfl, (Array.getElem?_eq_some_iff.1 hg).1, fun j hj => ?_⟩⟩
    rw [← htake, List.getElem?_take, if_pos hj, Nat.zero_add]
    have hjc : j < cur.size := by rw [hcs]; exact Nat.lt_of_lt_of_le hj (Nat.mul_le_mul_right _ hnc)
    simp [World.cell?, hg, hjc]
theorem OwnsT.below {w1 w2 : World} {base e : Nat} {v : Value} {ts : List α} (h : OwnsT enc k w1 base e v ts) (hb : Below w1.heap.size w1 w2) : OwnsT enc k w2 base e v ts := by
  refine ⟨h.1, ?_⟩
  rcases h.2 with h2 | ⟨g, cap, cur, rfl, hbg, hg, h3⟩
  · exact .inl h2
  · exact .inr ⟨g, cap, cur, rfl, hbg, (hb.block g (Array.getElem?_eq_some_iff.1 hg).1).trans hg, h3⟩
theorem OwnsT.grown {w1 w2 : World} {base e g : Nat} {v : Value} {ts : List α} (h : OwnsT enc k w1 base e v ts) (hg : w1.grownBy w2 (some g)) (hne : v.ownBlock ≠ some g) : OwnsT enc k w2 base e v ts := by
  refine ⟨h.1, ?_⟩
  rcases h.2 with h2 | ⟨g', cap, cur, rfl, hbg, hb, h3⟩
  · exact .inl h2
  · exact .inr ⟨g', cap, cur, rfl, hbg, (hg.block g' (Array.getElem?_eq_some_iff.1 hb).1 (by intro e; cases e; exact hne rfl)).trans hb, h3⟩
theorem OwnsT.bel {w w' : World} {base e : Nat} {v : Value} {ts : List α} (h : OwnsT enc k w base e v ts) (hg : w.grownBy w' v.ownBlock) (hb : base ≤ w.heap.size) : Below base w w' :=
  (Below.refl base w).grown hg hb fun j ej => by
    rcases h.2 with ⟨rfl, _⟩ | ⟨g, cap, cur, rfl, hb, _, _⟩
    · simp [Value.ownBlock] at ej
    · obtain rfl : g = j := by simpa [Value.ownBlock] using ej
      exact hb
theorem RowL.readsT (E : Enc enc k) {w : World} {g e : Nat} {ts : List α} (h : RowL w g e (ts.flatMap enc)) (cap : Nat) (hc : ts.length ≤ cap) : ReadsT enc k w (.slice (some ⟨g, 0, none⟩) ts.length cap) ts :=
  ⟨_, cap, rfl, hc, fun _ => ⟨g, 0, rfl, h.lt, fun j hj => by
    have hj' : j < (ts.flatMap enc).length := by rw [E.flat]; exact hj
    rw [Nat.zero_add, h.cell (j := j) (u := (ts.flatMap enc)[j]) (by simp [hj'])]; simp [hj']⟩⟩
end

/-- The type of a slice of such elements. -/
structure ElT (P : Program) (T e : TypeId) (z : Value) (k bytes : Nat) : Prop where
  under : P.underlying T = some (.slice e)
  info : ∃ i, P.info? e = some i ∧ i.zero = some z ∧ i.size = k ∧ i.bytes = bytes
  many : z.cells.size = k

section
variable {α : Type} {enc : α → List Value} {k : Nat} {P : Program} {T e : TypeId} {z : Value} {bytes : Nat}
theorem ReadsT.from (E : Enc enc k) {w : World} {a : Option Addr} {len cap m : Nat} {ts : List α} (h : ReadsT enc k w (.slice a len cap) ts) (hm : m ≤ len) : ReadsT enc k w (.slice (if cap = m then a else a.map fun p => p.add (m * k)) (len - m) (cap - m)) (ts.drop m) := by
  obtain ⟨a', cap', e', hc', hr'⟩ := h
  cases e'
  by_cases hcm : cap = m
  · have : ts.drop m = [] := by simp; omega
    rw [this]
    refine ⟨_, _, by congr 1; simp; omega, by simp, fun hne => (hne rfl).elim⟩
  · rw [if_neg hcm]
    refine ⟨_, cap - m, by rw [List.length_drop], by simp; omega, fun hne => ?_⟩
    have hlt : m < ts.length := by
      rcases Nat.lt_or_ge m ts.length with hl | hl
      · exact hl
      · exact absurd (List.drop_eq_nil_of_le hl) hne
    obtain ⟨b, off, ha, hb, hcell⟩ := hr' (by intro e; simp [e] at hlt)
    subst ha
    refine ⟨b, off + m * k, by simp [Addr.add], hb, fun j hj => ?_⟩
    have hsplit : ts.length * k = m * k + (ts.length - m) * k := by rw [← Nat.add_mul]; congr 1; omega
    rw [List.length_drop] at hj
    rw [Nat.add_assoc, hcell (m * k + j) (by omega), ← E.drop, List.getElem?_drop]
/-- append, whether it grows or not. -/
theorem run_append_t (E : Enc enc k) (I : ElT P T e z k bytes) (ty : TypeId) {base : Nat} {v vx : Value} {ts us : List α} {w : World} (hown : OwnsT enc k w base e v ts) (hr : ReadsT enc k w vx us)
    (h63 : ts.length + us.length ≤ maxLen) (hb : (ts.length + us.length) * bytes ≤ 140737488355328) (hbase : base ≤ w.heap.size) :
    ∃ v' w', (Builtin.append_ #[T, T] ty #[v, vx]).run P w = .ok v' w' ∧ OwnsT enc k w' base e v' (ts ++ us) ∧ w.grownBy w' v.ownBlock := by
  obtain ⟨i, hi, hz, hsz, hby⟩ := I.info
  obtain ⟨a, cap, rfl, hc, hcell⟩ := hr
  cases a with
  | none =>
    have hus : us = [] := by
      rcases Classical.em (us = []) with h | h
      · exact h
      · obtain ⟨b, off, ha, _⟩ := hcell h
        cases ha
    subst hus
    rcases id hown.2 with ⟨rfl, h0⟩ | ⟨g, cp, cur, rfl, hbg, hg, hnc, hcm, hcs, htake⟩
    · exact ⟨_, w, run_append_nilnil w I.under hi cap, by simpa using hown, grown_refl w _⟩
    · exact ⟨_, w, run_append_nilsrc w I.under hi g _ cp cap hnc, by simpa using hown, grown_refl w _⟩
  | some p =>
    obtain ⟨v', w', h1, h2, h3, _⟩ := run_append_own (P := P) w base T ty e i z k bytes I.under hi hz hsz hby I.many E.pos v ts.length _ hown p us.length cap (us.flatMap enc) (E.flat us)
      (fun j u hj => by
        have hjl : j < us.length * k := by
          have := (List.getElem?_eq_some_iff.1 hj).1
          rwa [E.flat] at this
        have hne : us ≠ [] := by intro e; simp [e] at hj
        obtain ⟨b, off, ha, _, hh⟩ := hcell hne
        cases ha
        rw [Addr.add_lit, hh j hjl, hj]) (E.ones us) h63 hb hbase
    refine ⟨v', w', h1, ?_, h3⟩
    unfold OwnsT
    rw [List.length_append, List.flatMap_append]
    exact h2
end

section
variable {α : Type} {enc : α → List Value} {k : Nat} {P : Program} {w : World} {o : Oper} {n : Nat} {D : List Deferred} {M : Slots} {T e : TypeId} {z : Value} {bytes : Nat} {r : Option Nat} {ops : Array Oper} {Q : Exit → Act → World → Prop} {rest : List Oper}
end
end Go.Proofs.YtompfnnmiccipaaGreatDoor
/- append to a slice of structs that the call owns, told where the row lies behind it. -/
namespace Go.Proofs.YtompfnnmiccipaaGreatDoor
set_option linter.unusedVariables false
set_option linter.unusedSimpArgs false
open Go.RowKit Go.Shelf

section
variable {α : Type} {enc : α → List Value} {k : Nat} {P : Program} {T e : TypeId} {z : Value} {bytes : Nat}
theorem OwnsT.lower {w : World} {base base' : Nat} {v : Value} {ts : List α} (h : OwnsT enc k w base' e v ts) (hb : base ≤ base') : OwnsT enc k w base e v ts := by
  refine ⟨h.1, ?_⟩
  rcases h.2 with h2 | ⟨g, cap, cur, rfl, hbg, h3⟩
  · exact .inl h2
  · exact .inr ⟨g, cap, cur, rfl, by omega, h3⟩
theorem OwnsT.above {w : World} {base : Nat} {v : Value} {ts : List α} (h : OwnsT enc k w base e v ts) : v.ownBlock = Option.none ∨ ∃ b, v.ownBlock = some b ∧ base ≤ b ∧ b < w.heap.size := by
  rcases h.2 with ⟨rfl, _⟩ | ⟨g, cap, cur, rfl, hbg, hg, _⟩
  · exact .inl rfl
  · exact .inr ⟨g, rfl, hbg, (Array.getElem?_eq_some_iff.1 hg).1⟩
theorem run_append_t2 (E : Enc enc k) (I : ElT P T e z k bytes) (ty : TypeId) {base : Nat} {v vx : Value} {ts us : List α} {w : World} (hown : OwnsT enc k w base e v ts) (hr : ReadsT enc k w vx us)
    (h63 : ts.length + us.length ≤ maxLen) (hb : (ts.length + us.length) * bytes ≤ 140737488355328) (hbase : base ≤ w.heap.size) :
    ∃ v' w', (Builtin.append_ #[T, T] ty #[v, vx]).run P w = .ok v' w' ∧ OwnsT enc k w' base e v' (ts ++ us) ∧ w.grownBy w' v.ownBlock ∧ (v'.ownBlock = v.ownBlock ∨ ∃ b, v'.ownBlock = some b ∧ w.heap.size ≤ b) := by
  rcases id hown.2 with ⟨rfl, h0⟩ | ⟨g, cap, cur, rfl, hbg, hg, hnc, hcm, hcs, htake⟩
  · have : ts = [] := List.eq_nil_of_length_eq_zero h0
    subst this
    obtain ⟨v', w', h1, h2, h3⟩ := run_append_t (base := w.heap.size) E I ty (OwnsT.none w _ e) hr h63 hb (Nat.le_refl _)
    refine ⟨v', w', h1, h2.lower hbase, h3, ?_⟩
    rcases h2.above with h | ⟨b, h, hb, _⟩
    · exact .inl h
    · exact .inr ⟨b, h, hb⟩
  · obtain ⟨i, hi, hz, hsz, hby⟩ := I.info
    obtain ⟨a, cap2, rfl, hc, hcell⟩ := hr
    cases a with
    | none =>
      have hus : us = [] := by
        rcases Classical.em (us = []) with h | h
        · exact h
        · obtain ⟨b, off, ha, _⟩ := hcell h
          cases ha
      subst hus
      exact ⟨_, w, run_append_nilsrc w I.under hi g _ cap cap2 hnc, by simpa using hown, grown_refl w _, .inl rfl⟩
    | some p =>
      have hnews : ∀ j u, (us.flatMap enc)[j]? = some u → w.cell? (p.add j) = some u := fun j u hj => by
        have hjl : j < us.length * k := by
          have := (List.getElem?_eq_some_iff.1 hj).1
          rwa [E.flat] at this
        have hne : us ≠ [] := by intro e; simp [e] at hj
        obtain ⟨b, off, ha, _, hh⟩ := hcell hne
        cases ha
        rw [Addr.add_lit, hh j hjl, hj]
      by_cases hroom : ts.length + us.length ≤ cap
      · obtain ⟨w', h1, h2, h3⟩ := run_append_fits (P := P) (w := w) base T ty e i k I.under hi hsz g ts.length cap _ hown p us.length cap2 (us.flatMap enc) (E.flat us) hnews (E.ones us) hroom
        refine ⟨_, w', h1, ?_, h3, .inl rfl⟩
        unfold OwnsT
        rw [List.length_append, List.flatMap_append]
        exact h2
      · have holds : ∀ j u, (ts.flatMap enc)[j]? = some u → w.cell? ((⟨g, 0, none⟩ : Addr).add j) = some u := fun j u hj => by
          have hjl : j < ts.length * k := by
            have := (List.getElem?_eq_some_iff.1 hj).1
            rwa [E.flat] at this
          obtain ⟨_, _, e1, _, h⟩ := hown.reads E
          cases e1
          obtain ⟨b, off, ha, _, hh⟩ := h (by intro e; simp [e] at hj)
          cases ha
          rw [Addr.add_lit, hh j hjl, hj]
        obtain ⟨v', w', h1, h2, h3⟩ := run_append_arg_grows (P := P) (w := w) T ty e i z k bytes I.under hi hz hsz hby I.many E.pos ⟨g, 0, none⟩ ts.length cap (ts.flatMap enc) (E.flat ts) holds p us.length cap2 (us.flatMap enc) (E.flat us) hnews (by omega) h63 hb
        have h4 : OwnsT enc k w' w.heap.size e v' (ts ++ us) := by
          unfold OwnsT
          rw [List.length_append, List.flatMap_append]
          exact h2
        refine ⟨v', w', h1, h4.lower hbase, ⟨h3.os, h3.tape, h3.output, h3.size, fun j hj _ => h3.block j hj (by simp)⟩, ?_⟩
        rcases h4.above with h | ⟨b, h, hb, _⟩
        · exfalso
          rcases h2.2 with ⟨_, h0⟩ | ⟨g', cap', cur', rfl, _⟩
          · omega
          · simp [Value.ownBlock] at h
        · exact .inr ⟨b, h, hb⟩
end

section
variable {α : Type} {enc : α → List Value} {k : Nat} {P : Program} {w : World} {o : Oper} {n : Nat} {D : List Deferred} {M : Slots} {T e : TypeId} {z : Value} {bytes : Nat} {r : Option Nat} {ops : Array Oper} {Q : Exit → Act → World → Prop} {rest : List Oper}
theorem LL.appendT2 {xs : Array Operand} {v vx : Value} {base : Nat} {ts us : List α} (ho : o.op = .call { callee := .builtin .append, args := xs, argTypes := #[T, T] }) (hx : evsM M xs.toList = some [v, vx]) (E : Enc enc k) (I : ElT P T e z k bytes) (hown : OwnsT enc k w base e v ts) (hr : ReadsT enc k w vx us)
    (h63 : ts.length + us.length ≤ maxLen) (hb : (ts.length + us.length) * bytes ≤ 140737488355328) (hbase : base ≤ w.heap.size) (hd : dstB n o.dst = true) (hg : wantB ops M o.guard = some true)
    (c : ∀ v' w', OwnsT enc k w' base e v' (ts ++ us) → w.grownBy w' v.ownBlock → (v'.ownBlock = v.ownBlock ∨ ∃ b, v'.ownBlock = some b ∧ w.heap.size ≤ b) → LL r P ops Q n D (putM M o.dst v') rest w') : LL r P ops Q n D M (o :: rest) w := by
  obtain ⟨v', w', h1, h2, h3, h4⟩ := run_append_t2 E I o.type hown hr h63 hb hbase
  refine LL.val (v := v') (R.builtin ho hx fun b => ?_) hd (by rw [ho]; rfl) hg (c v' w' h2 h3 h4)
  unfold builtin
  simp only [Sem.run_bind, h1, Result.andThen_ok, Sem.run_pure]
end
end Go.Proofs.YtompfnnmiccipaaGreatDoor
/- What is known of a world, carried over to a later one: .up over what makes memory, .gr over what writes one block. For any seat. -/
namespace Go.Proofs.YtompfnnmiccipaaGreatDoor
set_option linter.unusedVariables false
set_option linter.unusedSimpArgs false
open Go.RowKit Go.Shelf

section
variable {w w' : World} {g e r k : Nat} {xs : List Value} {v : Value} {α : Type} {enc : α → List Value} {ts : List α} {base : Nat}
theorem RowL.up (h : RowL w g e xs) (hb : Below w.heap.size w w') : RowL w' g e xs := h.below hb h.lt
theorem RowL.gr (h : RowL w g e xs) (hg : w.grownBy w' (some r)) (hne : g ≠ r) : RowL w' g e xs := h.same (hg.block g h.lt (by simpa using hne))
theorem Reads.up (h : Reads w v xs) (hb : Below w.heap.size w w') : Reads w' v xs := h.below hb
theorem ReadsT.up (h : ReadsT enc k w v ts) (hb : Below w.heap.size w w') : ReadsT enc k w' v ts := h.below hb
theorem OwnsT.up (h : OwnsT enc k w base e v ts) (hb : Below w.heap.size w w') : OwnsT enc k w' base e v ts := h.below hb
end

/-! Truth values of one cell. -/
/-- An element of one cell. -/
theorem ReadsT.one {α : Type} {enc : α → List Value} (E : Enc enc 1) {w : World} {a : Option Addr} {n cap i : Nat} {ts : List α} {t : α} (h : ReadsT enc 1 w (.slice a n cap) ts) (ht : ts[i]? = some t) :
    ∃ b off, a = some ⟨b, off, none⟩ ∧ b < w.heap.size ∧ ∀ u, enc t = [u] → w.cell? ⟨b, off + i, none⟩ = some u := by
  obtain ⟨b, off, ea, hb, hc⟩ := h.get E ht
  refine ⟨b, off, ea, hb, fun u hu => ?_⟩
  have := hc.at (j := 0) (u := u) (by rw [hu]; rfl)
  rwa [Nat.mul_one, Nat.add_zero] at this
end Go.Proofs.YtompfnnmiccipaaGreatDoor
/- Two results, some of which lie in variables' cells. Over any program. -/
namespace Go.Proofs.YtompfnnmiccipaaGreatDoor
set_option linter.unusedVariables false
set_option linter.unusedSimpArgs false
open Go.RowKit Go.Shelf

section
variable {P : Program} {fn : Func} {R : Ending → World → Prop} {n : Nat} {D : List Deferred} {M : Slots} {w : World} {x y : ResultVar} {u v : Value} {a : Act}
/-- What a result's variable holds. -/
def rv (P : Program) (w : World) (M : Slots) : ResultVar → Value → Prop
  | .tmp t, v => M t = some v
  | .cell s t, v => ∃ p, M s = some (.pointer (some p)) ∧ (loadVar t p).run P w = .ok v w
theorem results2_run (F : Fr n D M a) (h : fn.results = #[x, y]) (hx : rv P w M x u) (hy : rv P w M y v) : (results fn a.tmps).run P w = .ok (.tuple #[u, v]) w := by
  unfold results
  rw [h]
  cases x with
  | tmp t =>
    have g1 := F.get t _ hx
    cases y with
    | tmp t2 =>
      have g2 := F.get t2 _ hy
      simp only [List.mapM_toArray, List.mapM_cons, List.mapM_nil, g1, g2]
      simp only [bind_assoc, pure_bind, Sem.run_bind, Sem.run_map, Sem.run_pure, Result.andThen_ok]
      rfl
    | cell s2 t2 =>
      obtain ⟨p2, h2, h3⟩ := hy
      have g2 := F.get s2 _ h2
      simp only [List.mapM_toArray, List.mapM_cons, List.mapM_nil, g1, g2, asAddr]
      simp only [bind_assoc, pure_bind, Sem.run_bind, Sem.run_map, Sem.run_pure, h3, Result.andThen_ok]
      rfl
  | cell s t =>
    obtain ⟨p, h0, h1⟩ := hx
    have g1 := F.get s _ h0
    cases y with
    | tmp t2 =>
      have g2 := F.get t2 _ hy
      simp only [List.mapM_toArray, List.mapM_cons, List.mapM_nil, g1, g2, asAddr]
      simp only [bind_assoc, pure_bind, Sem.run_bind, Sem.run_map, Sem.run_pure, h1, Result.andThen_ok]
      rfl
    | cell s2 t2 =>
      obtain ⟨p2, h2, h3⟩ := hy
      have g2 := F.get s2 _ h2
      simp only [List.mapM_toArray, List.mapM_cons, List.mapM_nil, g1, g2, asAddr]
      simp only [bind_assoc, pure_bind, Sem.run_bind, Sem.run_map, Sem.run_pure, h1, h3, Result.andThen_ok]
      rfl
theorem EE.ret2 (h : fn.results = #[x, y]) (hx : rv P w M x u) (hy : rv P w M y v) (hR : R (.returned (.tuple #[u, v])) w) : EE (bodyPost P fn R) n [] M .ret w := EE.mk fun a F => ⟨F.defers, _, results2_run F h hx hy, hR⟩
/-- Behind one range. -/
theorem EE.retN2 {E : Nat} (hE : w.heap[E]? = some (.deferred (some []))) (h : fn.results = #[x, y]) (hx : rv P (taken E w) M x u) (hy : rv P (taken E w) M y v) (hR : R (.returned (.tuple #[u, v])) (taken E w)) : EE (calmP (bodyPostM Fence.wide 3 P fn R)) n [mark E] M .ret w := EE.mk fun a F => by
  show LeavesInM Fence.wide 3 P fn a.tmps R a.defers .returning w
  rw [F.defers]
  refine ⟨by simp, .inl ⟨_, _, rfl, run_takeDeferred hE, ?_⟩⟩
  exact ⟨_, results2_run (P := P) F h hx hy, hR⟩
end
end Go.Proofs.YtompfnnmiccipaaGreatDoor
/- Which rows are kept: a set of them. And a scope in which the run jumps back to a label at its beginning. -/
namespace Go.Proofs.YtompfnnmiccipaaGreatDoor
set_option linter.unusedVariables false
set_option linter.unusedSimpArgs false
open Go.RowKit Go.Shelf

/-- The rows of K are as they were. -/
structure Kept (K : Nat → Prop) (w w' : World) : Prop where
  os : w'.os = w.os
  tape : w'.tape = w.tape
  output : w'.output = w.output
  size : w.heap.size ≤ w'.heap.size
  block : ∀ j, K j → w'.heap[j]? = w.heap[j]?
section
variable {K K' : Nat → Prop} {w w1 w2 : World}
theorem Kept.refl (K : Nat → Prop) (w : World) : Kept K w w := ⟨rfl, rfl, rfl, Nat.le_refl _, fun _ _ => rfl⟩
theorem Kept.trans (h : Kept K w w1) (h2 : Kept K w1 w2) : Kept K w w2 := ⟨h2.os.trans h.os, h2.tape.trans h.tape, h2.output.trans h.output, Nat.le_trans h.size h2.size, fun j hj => (h2.block j hj).trans (h.block j hj)⟩
theorem Kept.less (h : Kept K w w1) (hk : ∀ j, K' j → K j) : Kept K' w w1 := ⟨h.os, h.tape, h.output, h.size, fun j hj => h.block j (hk j hj)⟩
theorem bkept {B : Nat} (h : Below B w w1) (hk : ∀ j, K j → j < B) : Kept K w w1 := ⟨h.os, h.tape, h.output, h.size, fun j hj => h.block j (hk j hj)⟩
theorem grown_kept {r : Option Nat} (h : w.grownBy w1 r) (hk : ∀ j, K j → j < w.heap.size) (hr : ∀ j, K j → r ≠ some j) : Kept K w w1 := ⟨h.os, h.tape, h.output, h.size, fun j hj => h.block j (hk j hj) (by first | exact fun e => hr j hj e | exact fun e => hr j hj e.symm)⟩
theorem Kept.bel {B : Nat} (h : Kept (· < B) w w1) : Below B w w1 := ⟨h.os, h.tape, h.output, h.size, fun j hj => h.block j hj⟩
theorem RowL.kept {g e : Nat} {xs : List Value} (h : RowL w g e xs) (hk : Kept K w w1) (hg : K g) : RowL w1 g e xs := h.same (hk.block g hg)
end

section
variable {P : Program} {w : World} {n : Nat} {D : List Deferred} {M : Slots} {Q : Exit → Act → World → Prop}
theorem EE.jump {α : Type} {l : Nat} {L : α → List (Nat × Value)} {I : α → World → Prop} {μ : α → Nat} {p : α} (p' : α) (hL : Fits M (L p')) (hI : I p' w) (hμ : μ p' < μ p) : EE (Exit.jump l (fun a' w' => ∃ p', Fr n D (sl (L p')) a' ∧ I p' w' ∧ μ p' < μ p) Q) n D M (.goto l) w := EE.mk fun _ F => ⟨rfl, p', F.keep _ hL, hI, hμ⟩
theorem EE.jumpR {l : Nat} {J : Act → World → Prop} (h : EE Q n D M .ret w) : EE (Exit.jump l J Q) n D M .ret w := EE.mk fun a F => h.h a F
end
end Go.Proofs.YtompfnnmiccipaaGreatDoor
/- Ranges over functions, anew: a round knows that the iterator's own rows lie below its own; what the round's variables are is told by more than the element. -/
namespace Go.Proofs.YtompfnnmiccipaaGreatDoor
set_option linter.unusedVariables false
set_option linter.unusedSimpArgs false
open Go.RowKit Go.Shelf

/-- WHAT AN ITERATOR'S VALUE GIVES: one of the lists of S, or a beginning of one, where a round has said 'no more'. -/
def GivesM {α : Type} (P : Program) (g : Nat) (lb : Array Value) (encs : α → Array Value) (D : Nat → Prop) (S : List α → Prop) (w : World) : Prop :=
  ∀ (l : Nat) (J Jx : Nat → List α → World → Prop) (W : World), Below w.heap.size w W → (∀ m, Abides W.heap.size m (J m)) → (∀ m, Abides W.heap.size m (Jx m)) →
    (∀ m pre x W1, W.heap.size ≤ m → m ≤ W1.heap.size → J m pre W1 → Part S (pre ++ [x]) → YieldAt Fence.wide 3 P l (encs x) W1 fun e W' =>
      Stays W.heap.size m W1 W' ∧ ((e = .returned (.bool true) ∧ J m (pre ++ [x]) W' ∧ Keeps D W1 W') ∨ (e = .returned (.bool false) ∧ Jx m (pre ++ [x]) W'))) →
    (∀ m, J m [] W) →
    Calls P g (#[.func (.yield l) #[] #[]] ++ lb) W fun e W' => (∃ v, e = .returned v) ∧ ((∃ m xs, S xs ∧ J m xs W') ∨ (∃ m pre, Part S pre ∧ Jx m pre W'))

theorem GivesM.later {α : Type} {P : Program} {g : Nat} {lb : Array Value} {encs : α → Array Value} {D : Nat → Prop} {S : List α → Prop} {w w' : World}
    (h : GivesM P g lb encs D S w) (hb : Below w.heap.size w w') : GivesM P g lb encs D S w' :=
  fun l J Jx W hW hJ hJx hY h0 => h l J Jx W (hb.trans (hW.mono hb.size)) hJ hJx hY h0

section core
variable {α : Type} {P : Program}

end core


section
variable {α γ : Type} {P : Program} {n : Nat} {D : List Deferred} {M : Slots}
theorem RowL.own {B g e : Nat} {xs : List Value} : OwnFrom B (fun (_ : Unit) W => RowL W g e xs) := fun _ W W' row h hg hr => by
  have hlt := h.lt
  have h' : W.heap[g]? = some (.cells xs.toArray e (0, 0)) := h
  refine h.same (hg.block g hlt ?_)
  have key : row ≠ some g := fun e => by
    obtain ⟨_, o, ho, hc⟩ := hr g e
    rw [h'] at ho
    cases ho
    cases hc
  first
    | exact key
    | exact fun e => key e.symm
theorem RowL.abides {β : Type} {B m g e : Nat} (hb : g < B) (f : β → List Value) : Abides B m (fun s W => RowL W g e (f s)) := fun s W W' hs ht => ht.same g _ hs (.inl hb)
/-- A scope without a goto. -/
theorem CC.straight {Q : Exit → Act → World → Prop} {c : Code} {w : World} (h : CC none P (Exit.noGoto Q) n D M c w) : CC none P Q n D M (.scope c) w := CC.mk fun a F => (wpIn_wide (n := 3)).2 (wp_scope_straight ((wpIn_wide (n := 3)).1 (h.h a F)))
theorem EE.noN {Q : Exit → Act → World → Prop} {w : World} (h : EE Q n D M .normal w) : EE (Exit.noGoto Q) n D M .normal w := EE.mk fun a F => h.h a F
end
end Go.Proofs.YtompfnnmiccipaaGreatDoor
/- One result that lies in a variable, behind ranges; loops of so many rounds, each by itself; min and max. For any seat. -/
namespace Go.Proofs.YtompfnnmiccipaaGreatDoor
set_option linter.unusedVariables false
set_option linter.unusedSimpArgs false
open Go.RowKit Go.Shelf

section
variable {P : Program} {fn : Func} {R : Ending → World → Prop} {n : Nat} {D : List Deferred} {M : Slots} {w : World} {x : ResultVar} {u : Value} {a : Act} {r : Option Nat} {c : Code} {Q : Exit → Act → World → Prop} {m : Nat}
theorem results1_run (F : Fr n D M a) (h : fn.results = #[x]) (hx : rv P w M x u) : (results fn a.tmps).run P w = .ok u w := by
  unfold results
  rw [h]
  cases x with
  | tmp t =>
    have g1 := F.get t _ hx
    simp only [List.mapM_toArray, List.mapM_cons, List.mapM_nil, g1]
    simp only [bind_assoc, pure_bind, Sem.run_bind, Sem.run_map, Sem.run_pure, Result.andThen_ok]
    rfl
  | cell s t =>
    obtain ⟨p, h0, h1⟩ := hx
    have g1 := F.get s _ h0
    simp only [List.mapM_toArray, List.mapM_cons, List.mapM_nil, g1, asAddr]
    simp only [bind_assoc, pure_bind, Sem.run_bind, Sem.run_map, Sem.run_pure, h1, Result.andThen_ok]
    rfl
theorem EE.retM1 (h : fn.results = #[x]) (hx : rv P w M x u) (hR : R (.returned u) w) : EE (calmP (bodyPostM Fence.wide 3 P fn R)) n [] M .ret w := EE.mk fun a F => by
  show LeavesInM Fence.wide 3 P fn a.tmps R a.defers .returning w
  rw [F.defers]
  exact ⟨_, results1_run F h hx, hR⟩
theorem taken_up {g t E : Nat} {xs : List Value} (h : RowL w g t xs) (hne : g ≠ E) : RowL (taken E w) g t xs := by
  have gt : w.grownBy (taken E w) (some E) := grownBy_putObj' _ _ _
  exact h.same (gt.block g h.lt (by simpa using hne))
/-- A loop of so many rounds at most, each by itself. -/
structure RN (r : Option Nat) (P : Program) (c : Code) (Q : Exit → Act → World → Prop) (n : Nat) (D : List Deferred) (M : Slots) (m : Nat) (w : World) : Prop where
  h : ∀ a, Fr n D M a → Code.roundsIn (Wr r) 3 P c Q m a w
theorem CC.loopN (m : Nat) (h : RN r P c Q n D M m w) : CC r P Q n D M (.loop c) w := CC.mk fun a F => wpIn_loop_rounds m (h.h a F)
theorem RN.step (h : CC r P (Exit.then (fun a' w' => Code.roundsIn (Wr r) 3 P c Q m a' w') Q) n D M c w) : RN r P c Q n D M (m + 1) w := RN.mk fun a F => h.h a F
theorem RN.keep (L : List (Nat × Value)) (hL : Fits M L) (h : RN r P c Q n D (sl L) m w) : RN r P c Q n D M m w := RN.mk fun a F => h.h a (F.keep L hL)
theorem EE.again (h : RN r P c Q n D M m w) : EE (Exit.then (fun a' w' => Code.roundsIn (Wr r) 3 P c Q m a' w') Q) n D M .normal w := EE.mk fun a F => h.h a F
theorem R.max {o : Oper} {xs : Array Operand} {ts : Array TypeId} {k : IntKind} {y z : Int} (ho : o.op = .call { callee := .builtin .max, args := xs, argTypes := ts }) (hx : evsM M xs.toList = some [.int k y, .int k z]) : Runs P n D M o w (.value (.int k (if y < z then z else y))) w := R.builtin ho hx fun cs => by
  simp [Go.builtin, Builtin.max_, Builtin.max2]
theorem R.min {o : Oper} {xs : Array Operand} {ts : Array TypeId} {k : IntKind} {y z : Int} (ho : o.op = .call { callee := .builtin .min, args := xs, argTypes := ts }) (hx : evsM M xs.toList = some [.int k y, .int k z]) : Runs P n D M o w (.value (.int k (if z < y then z else y))) w := R.builtin ho hx fun cs => by
  simp [Go.builtin, Builtin.min_, Builtin.min2]
end
end Go.Proofs.YtompfnnmiccipaaGreatDoor
/- Strings as lists of bytes. For any seat. -/
namespace Go.Proofs.YtompfnnmiccipaaGreatDoor
set_option linter.unusedVariables false
set_option linter.unusedSimpArgs false
open Go.RowKit Go.Shelf

abbrev Bs := List UInt8
abbrev strV (l : Bs) : Value := .string ⟨l.toArray⟩
theorem bs_list (l : Bs) : (⟨l.toArray⟩ : ByteArray).toList = l := by rw [ByteArray.toList_eq]
theorem bs_data (s : ByteArray) : s = ⟨s.data.toList.toArray⟩ := by cases s; simp
section
variable {P : Program} {w : World} {o : Oper} {n : Nat} {D : List Deferred} {M : Slots} {x y : Operand} {t u : TypeId} {a b : Bs} {i : Nat}
theorem R.eqS {c : Bool} (ho : o.op = .binOp .eql t x y u) (hx : evM M x = some (strV a)) (hy : evM M y = some (strV b)) (hc : decide (a = b) = c) : Runs P n D M o w (.value (.bool c)) w :=
  R.eqStr ho hx hy (by rw [bs_list, bs_list, ← hc, Bool.eq_iff_iff]; simp)
theorem I.ixStr {c : UInt8} (ht : isStr P t = true) (hi : a[i]? = some c) : (Instr.index t (strV a) (.int .i64 (i : Int))).run P w = .ok (.int .u8 (c.toNat : Int)) w := by
  unfold isStr at ht
  cases hu : P.underlying t with
  | none => rw [hu] at ht; cases ht
  | some d =>
    rw [hu] at ht
    cases d <;> try (cases ht; done)
    have hg : (⟨a.toArray⟩ : ByteArray)[i]? = some c := by
      have hlt := (List.getElem?_eq_some_iff.1 hi)
      obtain ⟨h1, h2⟩ := hlt
      have hs : i < (⟨a.toArray⟩ : ByteArray).size := by simpa [ByteArray.size] using h1
      rw [getElem?_pos _ i hs]
      congr 1
    have h0 : (0 : Int) ≤ (i : Int) := by omega
    simp [Instr.index, asIntOf, run_underlying hu, h0, hg]
theorem R.ixS {c : UInt8} (ho : o.op = .index t x y) (hx : evM M x = some (strV a)) (hy : evM M y = some (.int .i64 (i : Int))) (ht : isStr P t = true) (hi : a[i]? = some c) : Runs P n D M o w (.value (.int .u8 (c.toNat : Int))) w :=
  R.indexV ho hx hy (I.ixStr ht hi)
end
end Go.Proofs.YtompfnnmiccipaaGreatDoor
/- What the tool that writes walks (tools/WDev.lean) takes: comparisons that part the walk, regions that draw their order over a world that is named anew, loads of structs. -/
namespace Go.Proofs.YtompfnnmiccipaaGreatDoor
set_option linter.unusedVariables false
set_option linter.unusedSimpArgs false
open Go.RowKit Go.Shelf
section
variable {P : Program} {ops : Array Oper} {w w' : World} {o : Oper} {rest : List Oper} {n : Nat} {D : List Deferred} {M : Slots} {v : Value} {r : Option Nat} {Q : Exit → Act → World → Prop}
theorem LL.vsplit {p : Prop} [Decidable p] (ht : p → Runs P n D M o w (.value (.bool true)) w) (hf : ¬p → Runs P n D M o w (.value (.bool false)) w) (hd : dstB n o.dst = true) (hdf : dfB o.op = false) (hg : wantB ops M o.guard = some true)
    (k1 : p → LL r P ops Q n D (putM M o.dst (.bool true)) rest w) (k2 : ¬p → LL r P ops Q n D (putM M o.dst (.bool false)) rest w) : LL r P ops Q n D M (o :: rest) w := by
  by_cases h : p
  · exact LL.val (ht h) hd hdf hg (k1 h)
  · exact LL.val (hf h) hd hdf hg (k2 h)
theorem SS.vsplit {R : Act → Prop} {p : Prop} [Decidable p] (ht : p → Runs P n D M o w (.value (.bool true)) w) (hf : ¬p → Runs P n D M o w (.value (.bool false)) w) (hd : dstB n o.dst = true) (hg : wantB ops M o.guard = some true)
    (k1 : p → SS P ops w R n D (putM M o.dst (.bool true)) rest) (k2 : ¬p → SS P ops w R n D (putM M o.dst (.bool false)) rest) : SS P ops w R n D M (o :: rest) := by
  by_cases h : p
  · exact SS.val (ht h) hd hg (k1 h)
  · exact SS.val (hf h) hd hg (k2 h)
/-- A region that draws its order and leaves memory alone; the world behind the draw is any one like it. -/
theorem CC.quietB {id : Nat} {l : List Oper} (hm : P.follows .mixedOrders = true) (hB : (Region.lexB .any l.toArray && l.all fun o => !dfB o.op) = true)
    (h : ∀ w1, Below w.heap.size w w1 → w1.heap.size = w.heap.size → SS P l.toArray w1 (fun a => Q .normal a w1) n D M l) : CC r P Q n D M (.region id l.toArray true) w :=
  CC.quiet hm hB (h _ below_drew rfl)
theorem I.ldNc {t : TypeId} {p : Addr} {vs : List Value} (hc : Cells w p vs) (hT : aggB P t = true) (hz : szB P t = some vs.length) : (Instr.loadAt t (.pointer (some p))).run P w = .ok (.agg vs.toArray) w := I.ldN hT hz hc
/-! Calls that tell a truth value. -/
theorem R.addIz {x y : Operand} {t u : TypeId} {a b z : Int} (ho : o.op = .binOp .add t x y u) (hx : evM M x = some (.int .i64 a)) (hy : evM M y = some (.int .i64 b)) (e : a + b = z) (h : -9223372036854775808 ≤ z ∧ z ≤ 9223372036854775807) : Runs P n D M o w (.value (.int .i64 z)) w := by subst e; exact R.addI ho hx hy h
theorem R.fieldC {t : TypeId} {x : Operand} {i : Nat} {vx : Value} (ho : o.op = .field t x i) (hx : evM M x = some vx) (hr : ∀ w, (Instr.field t vx i).run P w = .ok v w) : Runs P n D M o w (.value v) w := R.fieldV ho hx (hr w)
theorem lvNc {t : TypeId} {p : Addr} {vs : List Value} (hc : Cells w p vs) (hT : aggB P t = true) (hz : szB P t = some vs.length) : (loadVar t p).run P w = .ok (.agg vs.toArray) w := lvN hT hz hc
theorem RowL.cells0 {g e : Nat} {xs : List Value} (h : RowL w g e xs) : Cells w ⟨g, 0, none⟩ xs := h.cells (by simp)
theorem ones_of {vs : List Value} (h : (vs.all fun u => u.oneCell') = true) : ∀ u ∈ vs, u.oneCell' = true := List.all_eq_true.1 h
end
end Go.Proofs.YtompfnnmiccipaaGreatDoor
/- Equal structs and arrays of integers, truth values, strings, and of such: cell by cell. Over any program. -/
namespace Go.Proofs.YtompfnnmiccipaaGreatDoor
set_option linter.unusedVariables false
set_option linter.unusedSimpArgs false
open Go.RowKit Go.Shelf
section
variable {P : Program}
def eqF (P : Program) (g : TypeId → List Value → List Value → Option (List Bool)) (xs ys : List Value) : List Field → Option (List Bool)
  | [] => some []
  | f :: fs => if f.name = "_" then none else match g f.type ((xs.drop f.offset).take (P.cellsOf f.type)) ((ys.drop f.offset).take (P.cellsOf f.type)), eqF P g xs ys fs with
    | some a, some b => some (a ++ b)
    | _, _ => none
variable {n : Nat} {D : List Deferred} {M : Slots} {w : World} {o : Oper} {x y : Operand} {t u : TypeId} {xs ys : List Value} {bs : List Bool} {p : Prop} [Decidable p]
end
end Go.Proofs.YtompfnnmiccipaaGreatDoor
/- Regions that draw their order: several steps that make memory, none of which harms what the others made: one goal for each step, not one for each order. -/
namespace Go.Proofs.YtompfnnmiccipaaGreatDoor
set_option linter.unusedVariables false
set_option linter.unusedSimpArgs false
open Go.RowKit Go.Shelf

def dstO (ops : Array Oper) (i : Nat) : Option Nat := (ops[i]?).bind (·.dst)
def depB (ops : Array Oper) (i j : Nat) : Bool := match ops[i]? with
  | some o => o.after.any fun e => Region.binds .any e && Nat.beq e.on j
  | none => false
def AtD (d : Option Nat) (a : Act) (v : Value) : Prop := ∀ s, d = some s → a.tmps.getD s undef = v

/-- One step: what it needs of the others, what it makes. -/
structure MS (P : Program) (ops : Array Oper) (ok : World → Prop) (acts : List Nat) (φ : Nat → Value → World → Prop) (i : Nat) (R : Value → World → Prop) (n : Nat) (D : List Deferred) (M : Slots) (w : World) : Prop where
  h : ∀ a o, ops[i]? = some o → Fr n D M a → (∀ j ∈ acts, depB ops i j = true → ∃ v, AtD (dstO ops j) a v ∧ φ j v w) → ∀ K : Act → World → Prop, (∀ v w', ok w' → R v w' → K (a.put o.dst v) w') → stepR P ops ok i K a w

section
variable {P : Program} {ops : Array Oper} {Q : Exit → Act → World → Prop} {ok : World → Prop} {acts : List Nat} {φ : Nat → Value → World → Prop} {n i : Nat} {D : List Deferred} {M : Slots} {w w' : World} {o : Oper} {v : Value} {R : Value → World → Prop}
theorem MS.val (hi : ops[i]? = some o) (hr : Runs P n D M o w (.value v) w') (hg : wantB ops M o.guard = some true) (hok : ok w') (h : R v w') : MS P ops ok acts φ i R n D M w := MS.mk fun a o' ho F _ K hK => by
  obtain rfl : o = o' := Option.some.inj (hi.symm.trans ho)
  unfold stepR
  simp only [hi]
  rw [if_pos (F.want hg)]
  exact .inl ⟨v, w', hr a F, hok, hK _ _ hok h⟩
theorem MS.call {g : FuncId} {args : Array Value} {R' : Ending → World → Prop} (hi : ops[i]? = some o) (hr : Runs P n D M o w (.enter g args) w) (hg : wantB ops M o.guard = some true) (hc : Calls P g args w R') (k : ∀ e w'', R' e w'' → ∃ v, e = .returned v ∧ ok w'' ∧ R v w'') : MS P ops ok acts φ i R n D M w := MS.mk fun a o' ho F _ K hK => by
  obtain rfl : o = o' := Option.some.inj (hi.symm.trans ho)
  unfold stepR
  simp only [hi]
  rw [if_pos (F.want hg)]
  exact .inr (.inr ⟨g, args, w, R', hr a F, hc, fun e w'' hR => by
    obtain ⟨v, he, h1, h2⟩ := k e w'' hR
    exact ⟨v, he, h1, hK _ _ h1 h2⟩⟩)

end
end Go.Proofs.YtompfnnmiccipaaGreatDoor
/- append to a slice of structs without room, told that no row that was there is written; the steps of drawn regions that make memory. -/
namespace Go.Proofs.YtompfnnmiccipaaGreatDoor
set_option linter.unusedVariables false
set_option linter.unusedSimpArgs false
open Go.RowKit Go.Shelf

section
variable {α : Type} {enc : α → List Value} {k : Nat} {P : Program} {T e : TypeId} {z : Value} {bytes : Nat}
end

section
variable {α : Type} {enc : α → List Value} {k : Nat} {P : Program} {ops : Array Oper} {Q : Exit → Act → World → Prop} {ok : World → Prop} {acts : List Nat} {φ : Nat → Value → World → Prop} {n i f : Nat} {D : List Deferred} {M : Slots} {w w' : World} {o : Oper} {v : Value} {Rv : Value → World → Prop} {T e t : TypeId} {z : Value} {bytes : Nat} {listed listed1 : Array Bool} {K : Slots → World → Prop} {r : Option Nat} {rest : List Oper}
theorem MS.lit {ps : Array (Nat × Operand)} {m : Nat} {vs : List (Nat × Value)} (cs : List Value) (len : Nat) (hi : ops[i]? = some o) (ho : o.op = .buildSlice t m ps) (hx : evpM M ps.toList = some vs) (hr : ∀ w, (Instr.buildSlice t m vs.toArray).run P w = .ok (.slice (some ⟨w.heap.size, 0, none⟩) len len) (w.alloc (.cells cs.toArray e))) (hg : wantB ops M o.guard = some true)
    (c : ∀ w1 g, g = w.heap.size → RowL w1 g e cs → Below w.heap.size w w1 → ok w1 ∧ Rv (.slice (some ⟨g, 0, none⟩) len len) w1) : MS P ops ok acts φ i Rv n D M w :=
  have h := c _ _ rfl (RowL.new w e cs) (Below.alloc0 w _)
  MS.val hi (R.buildSlice ho hx (hr w)) hg h.1 h.2
theorem SR.lit {ps : Array (Nat × Operand)} {m : Nat} {vs : List (Nat × Value)} (cs : List Value) (len : Nat) (hi : ops[i]? = some o) (ho : o.op = .buildSlice t m ps) (hx : evpM M ps.toList = some vs) (hr : ∀ w, (Instr.buildSlice t m vs.toArray).run P w = .ok (.slice (some ⟨w.heap.size, 0, none⟩) len len) (w.alloc (.cells cs.toArray e))) (hd : dstB n o.dst = true) (hg : wantB ops M o.guard = some true)
    (c : ∀ w1 g, g = w.heap.size → RowL w1 g e cs → Below w.heap.size w w1 → ok w1 ∧ K (putM M o.dst (.slice (some ⟨g, 0, none⟩) len len)) w1) : SR P ops ok i K n D M w :=
  have h := c _ _ rfl (RowL.new w e cs) (Below.alloc0 w _)
  SR.val hi (R.buildSlice ho hx (hr w)) hd hg h.1 h.2
theorem SR.appendT2 {xs : Array Operand} {vx : Value} {base : Nat} {ts us : List α} (hi : ops[i]? = some o) (ho : o.op = .call { callee := .builtin .append, args := xs, argTypes := #[T, T] }) (hx : evsM M xs.toList = some [v, vx]) (E : Enc enc k) (I : ElT P T e z k bytes) (hown : OwnsT enc k w base e v ts) (hr : ReadsT enc k w vx us)
    (h63 : ts.length + us.length ≤ maxLen) (hb : (ts.length + us.length) * bytes ≤ 140737488355328) (hbase : base ≤ w.heap.size) (hd : dstB n o.dst = true) (hg : wantB ops M o.guard = some true)
    (c : ∀ v' w', OwnsT enc k w' base e v' (ts ++ us) → w.grownBy w' v.ownBlock → (v'.ownBlock = v.ownBlock ∨ ∃ b, v'.ownBlock = some b ∧ w.heap.size ≤ b) → ok w' ∧ K (putM M o.dst v') w') : SR P ops ok i K n D M w := by
  obtain ⟨v', w', h1, h2, h3, h4⟩ := run_append_t2 E I o.type hown hr h63 hb hbase
  have h := c v' w' h2 h3 h4
  refine SR.val (v := v') hi (R.builtin ho hx fun b => ?_) hd hg h.1 h.2
  unfold builtin
  simp only [Sem.run_bind, h1, Result.andThen_ok, Sem.run_pure]
/-- A store of one cell into a row that is known, as a step of a drawn region. -/
theorem SR.store {x y : Operand} {g off e : Nat} {xs : List Value} (hi : ops[i]? = some o) (ho : o.op = .store t x y) (hx : evM M x = some (.pointer (some ⟨g, off, none⟩))) (hy : evM M y = some v) (hz : szB P t = some 1) (hr : RowL w g e xs) (hl : off < xs.length) (h1 : v.oneCell' = true) (hcs : v.cells = #[v]) (hd : o.dst = none) (hg : wantB ops M o.guard = some true)
    (c : ∀ w1, RowL w1 g e (xs.set off v) → w.grownBy w1 (some g) → w1.heap.size = w.heap.size → ok w1 ∧ K M w1) : SR P ops ok i K n D M w := SR.mk fun K' hK a F => by
  have h := c _ (hr.set off v) (grown_set w _ v) (by simp [World.setCell])
  unfold stepR
  simp only [hi]
  rw [if_pos (F.want hg)]
  refine .inr (.inl ⟨_, R.store ho hx hy (I.st1R hz hr hl h1 hcs) a F, h.1, ?_⟩)
  rw [hd]
  exact hK _ _ h.2 _ F
end
end Go.Proofs.YtompfnnmiccipaaGreatDoor
/- Ranges over functions, once more: what an iterator lays is a set of blocks, which may grow from round to round (a variable of a round that it reads behind the yield, too). -/
namespace Go.Proofs.YtompfnnmiccipaaGreatDoor
set_option linter.unusedVariables false
set_option linter.unusedSimpArgs false
open Go.RowKit Go.Shelf

/-- What a round keeps for the iterator: of the blocks from B on those that the iterator laid, and all that hold no cells. -/
structure StaysZ (B : Nat) (m : Nat → Prop) (W W' : World) : Prop where
  size : W.heap.size ≤ W'.heap.size
  same : ∀ (k : Nat) (o : Obj), B ≤ k → W.heap[k]? = some o → (m k ∨ o.isCells = false) → W'.heap[k]? = some o
/-- What an iterator's own steps may turn: no more than that. -/
structure TurnsZ (B : Nat) (m : Nat → Prop) (W W' : World) : Prop where
  os : W'.os = W.os
  tape : W'.tape = W.tape
  output : W'.output = W.output
  size : W.heap.size ≤ W'.heap.size
  same : ∀ (k : Nat) (o : Obj), W.heap[k]? = some o → (k < B ∨ (¬ m k ∧ o.isCells = true)) → W'.heap[k]? = some o
/-- What the iterator does leaves it; what it lays since may be its own. -/
def AbidesZ {β : Type} (B : Nat) (J : (Nat → Prop) → β → World → Prop) : Prop := ∀ m m' s W W', J m s W → TurnsZ B m W W' → (∀ k, m' k → m k ∨ W.heap.size ≤ k) → J m' s W'
section small
variable {B B' n : Nat} {m : Nat → Prop} {W W' X Y : World}
theorem StaysZ.refl (B : Nat) (m : Nat → Prop) (W : World) : StaysZ B m W W := ⟨Nat.le_refl _, fun _ _ _ h _ => h⟩
theorem StaysZ.trans (h : StaysZ B m X W) (k : StaysZ B m W Y) : StaysZ B m X Y := ⟨Nat.le_trans h.size k.size, fun i o hb ho hc => k.same i o hb (h.same i o hb ho hc) hc⟩
theorem StaysZ.mono (h : StaysZ B m X W) (hb : B ≤ B') : StaysZ B' m X W := ⟨h.size, fun k o hk => h.same k o (Nat.le_trans hb hk)⟩
theorem StaysZ.of_below (h : Below W.heap.size W W') : StaysZ B m W W' :=
  ⟨h.size, fun k _ _ hk _ => (h.block k (Array.getElem?_eq_some_iff.1 hk).1).trans hk⟩
theorem StaysZ.record {l : Nat} {r : Loop} (h : StaysZ B m X W) (hb : B ≤ l) (hl : X.heap[l]? = some (.loop r)) : W.heap[l]? = some (.loop r) := h.same l _ hb hl (.inr rfl)
theorem StaysZ.turn {l : Nat} {o : Obj} (hb : l < B) : StaysZ B m W (W.putObj l o) :=
  ⟨by simp, fun k _ hk hx _ => (World.putObj_heap_other (by omega)).trans hx⟩
/-- A write into a block that lies ahead of B. -/
theorem StaysZ.of_grown {b : Nat} {W W' : World} (h : W.grownBy W' (some b)) (hb : b < B) : StaysZ B m W W' :=
  ⟨h.size, fun k o hk ho _ => (h.block k (Array.getElem?_eq_some_iff.1 ho).1 (by simp; omega)).trans ho⟩
theorem StaysZ.row {g e : Nat} {xs : List Value} (h : StaysZ B m W W') (hr : RowL W g e xs) (hb : B ≤ g) (hm : m g) : RowL W' g e xs := h.same g _ hb hr (.inl hm)
theorem TurnsZ.refl (B : Nat) (m : Nat → Prop) (W : World) : TurnsZ B m W W := ⟨rfl, rfl, rfl, Nat.le_refl _, fun _ _ h _ => h⟩
theorem TurnsZ.trans (h : TurnsZ B m X W) (k : TurnsZ B m W Y) : TurnsZ B m X Y :=
  ⟨k.os.trans h.os, k.tape.trans h.tape, k.output.trans h.output, Nat.le_trans h.size k.size, fun i o ho hc => k.same i o (h.same i o ho hc) hc⟩
theorem TurnsZ.mono (h : TurnsZ B' m X W) (hb : B ≤ B') : TurnsZ B m X W := ⟨h.os, h.tape, h.output, h.size, fun k o hk hc => h.same k o hk (hc.imp (fun h => by omega) id)⟩
theorem TurnsZ.of_below (h : Below W.heap.size W W') : TurnsZ B m W W' :=
  ⟨h.os, h.tape, h.output, h.size, fun k _ hk _ => (h.block k (Array.getElem?_eq_some_iff.1 hk).1).trans hk⟩
theorem TurnsZ.putObj (h : TurnsZ B m X W) {l : Nat} {o : Obj} (o' : Obj) (hb : B ≤ l) (hl : W.heap[l]? = some o) (ho : o.isCells = false) : TurnsZ B m X (W.putObj l o') :=
  h.trans ⟨rfl, rfl, rfl, by simp, fun k x hk hc => by
    refine (World.putObj_heap_other (fun e => ?_)).trans hk
    subst e; rw [hl] at hk; cases hk; rcases hc with hc | ⟨_, hc⟩
    · omega
    · rw [ho] at hc; cases hc⟩
theorem TurnsZ.row {g e : Nat} {xs : List Value} (h : TurnsZ B m W W') (hr : RowL W g e xs) (hb : g < B ∨ ¬ m g) : RowL W' g e xs := h.same g _ hr (hb.imp_right fun h => ⟨h, rfl⟩)
theorem TurnsZ.below (h : TurnsZ B m W W') (hn : n ≤ B) (hs : n ≤ W.heap.size) : Below n W W' := ⟨h.os, h.tape, h.output, h.size, fun k hk => by
  have hlt : k < W.heap.size := by omega
  have ho := Array.getElem?_eq_getElem hlt
  exact (h.same k _ ho (.inl (by omega))).trans ho.symm⟩
theorem AbidesZ.putObj {β : Type} {I : (Nat → Prop) → β → World → Prop} (h : AbidesZ B I) {s : β} {l : Nat} {o : Obj} (o' : Obj) (hs : I m s W) (hb : B ≤ l) (hl : W.heap[l]? = some o) (ho : o.isCells = false) : I m s (W.putObj l o') :=
  h m m s W _ hs ((TurnsZ.refl _ _ _).putObj o' hb hl ho) (fun _ hk => .inl hk)
end small
/-- HOW THE BODY OF A ROUND MAY BE LEFT. -/
def roundPZ {α : Type} (B : Nat) (m : Nat → Prop) (D : Nat → Prop) (I : (Nat → Prop) → List α → World → Prop) (Ix : Code → (Nat → Prop) → List α → World → Prop) (xs : List α) (W : World) : Exit → Act → World → Prop
  | .normal, _, W' => StaysZ B m W W' ∧ Keeps D W W' ∧ I m xs W'
  | .ret, _, W' => StaysZ B m W W' ∧ Ix .ret m xs W'
  | .exit id, _, W' => StaysZ B m W W' ∧ Ix (.exit id) m xs W'
  | .goto t, _, W' => StaysZ B m W W' ∧ Ix (.goto t) m xs W'
  | .panic _, _, _ => False
  | .outgrown, _, _ => False

/-- WHAT AN ITERATOR'S VALUE GIVES: one of the lists of S, or a beginning of one, where a round has said 'no more'. -/
def GivesZ {α : Type} (P : Program) (g : Nat) (lb : Array Value) (encs : α → Array Value) (D : Nat → Prop) (S : List α → Prop) (w : World) : Prop :=
  ∀ (l : Nat) (J Jx : (Nat → Prop) → List α → World → Prop) (W : World), Below w.heap.size w W → (AbidesZ W.heap.size J) → (AbidesZ W.heap.size Jx) →
    (∀ m pre x W1, (∀ k, m k → W.heap.size ≤ k ∧ k < W1.heap.size) → J m pre W1 → Part S (pre ++ [x]) → YieldAt Fence.wide 3 P l (encs x) W1 fun e W' =>
      StaysZ W.heap.size m W1 W' ∧ ((e = .returned (.bool true) ∧ J m (pre ++ [x]) W' ∧ Keeps D W1 W') ∨ (e = .returned (.bool false) ∧ Jx m (pre ++ [x]) W'))) →
    (J (fun _ => False) [] W) →
    Calls P g (#[.func (.yield l) #[] #[]] ++ lb) W fun e W' => (∃ v, e = .returned v) ∧ ((∃ m xs, S xs ∧ J m xs W') ∨ (∃ m pre, Part S pre ∧ Jx m pre W'))

theorem GivesZ.later {α : Type} {P : Program} {g : Nat} {lb : Array Value} {encs : α → Array Value} {D : Nat → Prop} {S : List α → Prop} {w w' : World}
    (h : GivesZ P g lb encs D S w) (hb : Below w.heap.size w w') : GivesZ P g lb encs D S w' :=
  fun l J Jx W hW hJ hJx hY h0 => h l J Jx W (hb.trans (hW.mono hb.size)) hJ hJx hY h0

section core
variable {α : Type} {P : Program}

theorem coreZ {l B d gf : Nat} {D : Nat → Prop} {fn : FuncId} {tm : Array Value} {ps : Array Tmp} {assign body : Code} {lb : Array Value} {encs : α → Array Value} {S : List α → Prop} {w0 W1 : World}
    (hseq : GivesZ P gf lb encs D S w0) (hb : Below w0.heap.size w0 W1)
    (hl : W1.heap[l]? = some (.loop { state := .ready, pending := none, fn, tmps := tm, params := ps, assign, body, defers := d }))
    (hBl : B ≤ l) (hn : ∀ k, D k → k < l) (hps : ∀ x, (encs x).size = ps.size)
    (I : (Nat → Prop) → List α → World → Prop) (Ix : Code → (Nat → Prop) → List α → World → Prop) (hI : AbidesZ B I) (hIx : ∀ c, AbidesZ B (Ix c)) (h0 : I (fun _ => False) [] W1)
    (Ax : α → Act → World → Prop) (hAx : ∀ x a', OwnFrom B (fun (_ : Unit) W => Ax x a' W))
    (hassign : ∀ m pre x W (K : Act → World → Prop), (∀ k, m k → W1.heap.size ≤ k ∧ k < W.heap.size) → I m pre W → (∀ a' W', StaysZ B m W W' → Keeps D W W' → I m pre W' → Ax x a' W' → K a' W') →
      assign.wpIn (Fence.wide.inRound l) 3 P (Exit.then K (fun _ _ _ => False)) { tmps := (ps.zip (encs x)).foldl (fun t (p, v) => t.setIfInBounds p v) tm, defers := [] } W)
    (hbody : ∀ m pre x a' W, (∀ k, m k → W1.heap.size ≤ k ∧ k < W.heap.size) → (∃ r, W.heap[l]? = some (.loop r)) → I m pre W → Ax x a' W → Part S (pre ++ [x]) →
      body.wpIn (Fence.wide.inRound l) 3 P (roundPZ B m D I Ix (pre ++ [x]) W) a' W) :
    Calls P gf (#[.func (.yield l) #[] #[]] ++ lb) W1 (fun e W2 => (∃ v, e = .returned v) ∧ ∃ jump W3, (Instr.endLoop l).run P W2 = .ok jump W3 ∧
      ((jump = none ∧ ∃ m xs, S xs ∧ I m xs W3) ∨ (∃ c m pre, jump = some c ∧ Part S pre ∧ Ix c m pre W3))) := by
  have hlt1 : l < W1.heap.size := (Array.getElem?_eq_some_iff.1 hl).1
  obtain ⟨rec, hrec⟩ : ∃ rec : LoopState → Option Code → Loop, rec = fun st pe => { state := st, pending := pe, fn, tmps := tm, params := ps, assign, body, defers := d } := ⟨_, rfl⟩
  have hl1 : W1.heap[l]? = some (.loop (rec .ready none)) := by rw [hrec]; exact hl
  refine (hseq l (fun m pre W => I m pre W ∧ W.heap[l]? = some (.loop (rec .ready none)))
    (fun m pre W => ∃ c, Ix c m pre W ∧ W.heap[l]? = some (.loop (rec .done (some c)))) W1 hb
    (fun m m' s X Y hs ht hg => ⟨hI m m' s X Y hs.1 (ht.mono (by omega)) hg, ht.same l _ hs.2 (.inl hlt1)⟩)
    (fun m m' s X Y hs ht hg => by obtain ⟨c, hc, hx⟩ := hs; exact ⟨c, hIx c m m' s X Y hc (ht.mono (by omega)) hg, ht.same l _ hx (.inl hlt1)⟩)
    ?_ ⟨h0, hl1⟩).mono ?_
  · rintro m pre x W hm ⟨hi, hlw⟩ hpart
    have hy := run_yield (P := P) (args := encs x) hlw (by rw [hrec]; exact hps x)
    rw [hrec] at hy
    refine ⟨fn, _, assign, body, hy, roundIn_of_wpIn trivial (hassign m pre x W _ hm hi ?_)⟩
    intro a' Wa hst hbe hia hax
    have hla := hst.record hBl hlw
    have hlta : l < Wa.heap.size := (Array.getElem?_eq_some_iff.1 hla).1
    obtain ⟨Wb, hWb⟩ : ∃ Wb, Wa.putObj l (.loop { rec .ready none with state := .busy }) = Wb := ⟨_, rfl⟩
    refine ⟨Wb, by rw [← hWb]; exact run_beginRound hla (by rw [hrec]), ?_⟩
    have hlb : Wb.heap[l]? = some (.loop { rec .ready none with state := .busy }) := by rw [← hWb]; exact World.putObj_heap_same hlta
    have hib : I m pre Wb := by rw [← hWb]; exact hI.putObj _ hia hBl hla rfl
    have haxb : Ax x a' Wb := by rw [← hWb]; exact (hAx x a').putObj (s := ()) _ hax hBl hla rfl
    have hsb : StaysZ W1.heap.size m W Wb := by rw [← hWb]; exact (hst.mono (by omega)).trans (.turn hlt1)
    have hDl : ¬ D l := fun h => Nat.lt_irrefl _ (hn l h)
    have hbb : Keeps D W Wb := by rw [← hWb]; exact hbe.putObj hDl _
    refine wpIn_mono (hbody m pre x a' Wb (fun k hk => ⟨(hm k hk).1, Nat.lt_of_lt_of_le (hm k hk).2 hsb.size⟩) ⟨_, hlb⟩ hib haxb hpart) ?_
    have fin : ∀ (jump : Option Code) (W3 : World), StaysZ B m Wb W3 → ∃ W4, W4 = W3.putObj l (.loop (rec (if jump.isNone then .ready else .done) jump)) ∧
        (Instr.endRound l jump).run P W3 = .ok (.bool jump.isNone) W4 ∧ W4.heap[l]? = some (.loop (rec (if jump.isNone then .ready else .done) jump)) ∧
        W3.heap[l]? = some (.loop { rec .ready none with state := .busy }) ∧ StaysZ W1.heap.size m W W4 := fun jump W3 hs3 => by
      have hl3 := hs3.record hBl hlb
      have hr := run_endRound (P := P) jump hl3
      rw [hrec] at hr ⊢
      refine ⟨_, rfl, hr, World.putObj_heap_same (Array.getElem?_eq_some_iff.1 hl3).1, by rw [hrec] at hl3; exact hl3, ?_⟩
      exact (hsb.trans (hs3.mono (by omega))).trans (.turn hlt1)
    rintro e a3 W3 hp
    cases e with
    | normal =>
      obtain ⟨hs3, hb3, hi3⟩ := hp
      obtain ⟨W4, e4, hr, hl4, hl3, hs4⟩ := fin none W3 hs3
      refine ⟨_, W4, hr, hs4, .inl ⟨rfl, ⟨?_, hl4⟩, ?_⟩⟩
      · rw [e4]; exact hI.putObj _ hi3 hBl hl3 rfl
      · rw [e4]; exact (hbb.trans hb3).putObj hDl _
    | ret =>
      obtain ⟨hs3, hi3⟩ := hp
      obtain ⟨W4, e4, hr, hl4, hl3, hs4⟩ := fin (some .ret) W3 hs3
      exact ⟨_, W4, hr, hs4, .inr ⟨rfl, .ret, by rw [e4]; exact (hIx _).putObj _ hi3 hBl hl3 rfl, hl4⟩⟩
    | exit id =>
      obtain ⟨hs3, hi3⟩ := hp
      obtain ⟨W4, e4, hr, hl4, hl3, hs4⟩ := fin (some (.exit id)) W3 hs3
      exact ⟨_, W4, hr, hs4, .inr ⟨rfl, .exit id, by rw [e4]; exact (hIx _).putObj _ hi3 hBl hl3 rfl, hl4⟩⟩
    | goto t =>
      obtain ⟨hs3, hi3⟩ := hp
      obtain ⟨W4, e4, hr, hl4, hl3, hs4⟩ := fin (some (.goto t)) W3 hs3
      exact ⟨_, W4, hr, hs4, .inr ⟨rfl, .goto t, by rw [e4]; exact (hIx _).putObj _ hi3 hBl hl3 rfl, hl4⟩⟩
    | panic ch => exact hp.elim
    | outgrown => exact hp.elim
  · rintro e W2 ⟨hv, (⟨m, xs, hS, hi, hlw⟩ | ⟨m, pre, hp, c, hi, hlw⟩)⟩
    · have hr := run_endLoop (P := P) hlw (by rw [hrec]; simp)
      refine ⟨hv, _, _, hr, .inl ⟨by rw [hrec], m, xs, hS, hI.putObj _ hi hBl hlw rfl⟩⟩
    · have hr := run_endLoop (P := P) hlw (by rw [hrec]; simp)
      refine ⟨hv, _, _, hr, .inr ⟨c, m, pre, by rw [hrec], hp, (hIx c).putObj _ hi hBl hlw rfl⟩⟩

/-- THE STATEMENT, OUTERMOST. D is the block of the rounds' deferred calls: at the function's return it is taken once more. -/
theorem rangeZ_out {gf : Nat} {D : Nat → Prop} {g : Operand} {ps : Array Tmp} {assign body : Code} {Q : Exit → Act → World → Prop} {a : Act} {w w0 : World} {lb : Array Value} {encs : α → Array Value} {S : List α → Prop}
    (hg : a.eval g = .func (.func gf) #[] lb) (eg : ∀ args w, (callFunc gf args).run P w = .ok (.enter gf args) w)
    (hseq : GivesZ P gf lb encs D S w0) (hb : Below w0.heap.size w0 w) (hn : ∀ k, D k → k < w.heap.size) (hps : ∀ x, (encs x).size = ps.size)
    (I : (Nat → Prop) → List α → World → Prop) (Ix : Code → (Nat → Prop) → List α → World → Prop) (hI : AbidesZ w.heap.size I) (hIx : ∀ c, AbidesZ w.heap.size (Ix c)) (h0 : I (fun _ => False) [] w)
    (Ax : α → Act → World → Prop) (hAx : ∀ x a', OwnFrom w.heap.size (fun (_ : Unit) W => Ax x a' W))
    (hassign : ∀ (l : Nat) (m : Nat → Prop) pre x W (K : Act → World → Prop), (∀ k, m k → w.heap.size ≤ k ∧ k < W.heap.size) → I m pre W → (∀ a' W', StaysZ w.heap.size m W W' → Keeps D W W' → I m pre W' → Ax x a' W' → K a' W') →
      assign.wpIn (Fence.wide.inRound l) 3 P (Exit.then K (fun _ _ _ => False)) { tmps := (ps.zip (encs x)).foldl (fun t (p, v) => t.setIfInBounds p v) a.tmps, defers := [] } W)
    (hbody : ∀ (l : Nat) (m : Nat → Prop) pre x a' W, (∀ k, m k → w.heap.size ≤ k ∧ k < W.heap.size) → w.heap.size ≤ l → (∃ r, W.heap[l]? = some (.loop r)) → I m pre W → Ax x a' W → Part S (pre ++ [x]) →
      body.wpIn (Fence.wide.inRound l) 3 P (roundPZ w.heap.size m D I Ix (pre ++ [x]) W) a' W)
    (hdone : ∀ (E : Nat) (m : Nat → Prop) xs W, w.heap.size ≤ E → S xs → I m xs W → W.heap[E]? = some (.deferred (some [])) → Q .normal { a with defers := { target := .collected E, args := #[] } :: a.defers } W)
    (hstop : ∀ (E : Nat) (c : Code) (m : Nat → Prop) pre W, w.heap.size ≤ E → Part S pre → Ix c m pre W → W.heap[E]? = some (.deferred (some [])) →
      c.wpIn Fence.wide 3 P Q { a with defers := { target := .collected E, args := #[] } :: a.defers } W) :
    (Code.rangeFunc g ps assign body).wpIn Fence.wide 3 P Q a w := by
  refine wpIn_rangeFunc ?_
  intro fn hfn
  obtain ⟨W1, hW1⟩ : ∃ W1, (w.alloc (.deferred (some []))).alloc (.loop { state := .ready, pending := none, fn, tmps := a.tmps, params := ps, assign, body, defers := w.heap.size }) = W1 := ⟨_, rfl⟩
  have hL1 : W1.heap[w.heap.size + 1]? = some (.loop { state := .ready, pending := none, fn, tmps := a.tmps, params := ps, assign, body, defers := w.heap.size }) := by
    rw [← hW1]; have := World.alloc_heap_new (w.alloc (.deferred (some []))) (.loop { state := .ready, pending := none, fn, tmps := a.tmps, params := ps, assign, body, defers := w.heap.size }); rwa [World.size_alloc] at this
  have hK1 : W1.heap[w.heap.size]? = some (.deferred (some [])) := by
    rw [← hW1]; exact (Below.heap_alloc _ _ _ (by simp)).trans (World.alloc_heap_new w _)
  have hbw : Below w.heap.size w W1 := by rw [← hW1]; exact ((Below.refl _ w).alloc (Nat.le_refl _) _).alloc (by simp) _
  refine ⟨w.heap.size + 1, [{ target := .collected w.heap.size, args := #[] }], W1, { target := .fn (.func gf) lb, args := #[.func (.yield (w.heap.size + 1)) #[] #[]] }, W1, gf,
    #[.func (.yield (w.heap.size + 1)) #[] #[]] ++ lb, W1, ?_, ?_, fun _ _ => trivial, ?_, fun h => (by simp [Fence.wide] at h), ?_⟩
  · rw [← hW1]; exact run_enterLoop_outer _ _ _ _ _
  · simp only [resolve, hg]
    simp [go_sem]
  · simp [invoke, go_sem, eg]
  · refine callsIn_wide.2 ((coreZ (B := w.heap.size + 1) hseq (hb.trans (hbw.mono hb.size)) hL1 (Nat.le_refl _) (fun k hk => Nat.lt_succ_of_lt (hn k hk)) hps
      (fun m pre W => I m pre W ∧ W.heap[w.heap.size]? = some (.deferred (some []))) (fun c m pre W => Ix c m pre W ∧ W.heap[w.heap.size]? = some (.deferred (some [])))
      (fun m m' s X Y hs ht hg => ⟨hI m m' s X Y hs.1 (ht.mono (by omega)) hg, ht.same _ _ hs.2 (.inl (by omega))⟩)
      (fun c m m' s X Y hs ht hg => ⟨hIx c m m' s X Y hs.1 (ht.mono (by omega)) hg, ht.same _ _ hs.2 (.inl (by omega))⟩)
      ⟨hI _ _ _ _ _ h0 (.of_below hbw) (fun k hk => hk.elim), hK1⟩ Ax (fun x a' s X Y row hs hg' hr => hAx x a' s X Y row hs hg' (fun r e => ⟨by have := (hr r e).1; omega, (hr r e).2⟩))
      (fun m pre x W K hm hi hK => hassign _ m pre x W K (fun k hk => ⟨Nat.le_trans hbw.size (hm k hk).1, (hm k hk).2⟩) hi.1 (fun a' W' hs hbe hi' hax => hK a' W' (hs.mono (by omega)) hbe ⟨hi', hs.same _ _ (Nat.le_refl _) hi.2 (.inr rfl)⟩ hax))
      (fun m pre x a' W hm hr hi hax hp => wpIn_mono (hbody _ m pre x a' W (fun k hk => ⟨Nat.le_trans hbw.size (hm k hk).1, (hm k hk).2⟩) (by omega) hr hi.1 hax hp) ?_)).mono ?_)
    · intro e a3 W3 h3
      have hD : ∀ {W' : World}, StaysZ w.heap.size m W W' → W'.heap[w.heap.size]? = some (.deferred (some [])) := fun hs => hs.same _ _ (Nat.le_refl _) hi.2 (.inr rfl)
      cases e with
      | normal => exact ⟨h3.1.mono (by omega), h3.2.1, h3.2.2, hD h3.1⟩
      | ret => exact ⟨h3.1.mono (by omega), h3.2, hD h3.1⟩
      | exit id => exact ⟨h3.1.mono (by omega), h3.2, hD h3.1⟩
      | goto t => exact ⟨h3.1.mono (by omega), h3.2, hD h3.1⟩
      | panic ch => exact h3
      | outgrown => exact h3
    · rintro e W2 ⟨⟨v, rfl⟩, jump, W3, hr, (⟨rfl, m, xs, hS, hi, hD⟩ | ⟨c, m, pre, rfl, hp, hi, hD⟩)⟩
      · exact ⟨none, W3, hr, hdone _ m xs W3 (Nat.le_refl _) hS hi hD⟩
      · exact ⟨some c, W3, hr, hstop _ c m pre W3 (Nat.le_refl _) hp hi hD⟩

/-- THE STATEMENT, OUTERMOST, WHERE A ROUND LEAVES BY 'break' AT MOST. -/
theorem rangeZ_break {id gf : Nat} {D : Nat → Prop} {g : Operand} {ps : Array Tmp} {assign body : Code} {Q : Exit → Act → World → Prop} {a : Act} {w w0 : World} {lb : Array Value} {encs : α → Array Value} {S : List α → Prop}
    (hg : a.eval g = .func (.func gf) #[] lb) (eg : ∀ args w, (callFunc gf args).run P w = .ok (.enter gf args) w)
    (hseq : GivesZ P gf lb encs D S w0) (hb : Below w0.heap.size w0 w) (hn : ∀ k, D k → k < w.heap.size) (hps : ∀ x, (encs x).size = ps.size)
    (I Ix : (Nat → Prop) → List α → World → Prop) (A : World → Prop) (hI : AbidesZ w.heap.size I) (hIx : AbidesZ w.heap.size Ix) (h0 : I (fun _ => False) [] w)
    (Ax : α → Act → World → Prop) (hAx : ∀ x a', OwnFrom w.heap.size (fun (_ : Unit) W => Ax x a' W))
    (hIA : ∀ m xs W, S xs → I m xs W → A W) (hIxA : ∀ m pre W, Part S pre → Ix m pre W → A W)
    (hassign : ∀ (l : Nat) (m : Nat → Prop) pre x W (K : Act → World → Prop), (∀ k, m k → w.heap.size ≤ k ∧ k < W.heap.size) → I m pre W → (∀ a' W', StaysZ w.heap.size m W W' → Keeps D W W' → I m pre W' → Ax x a' W' → K a' W') →
      assign.wpIn (Fence.wide.inRound l) 3 P (Exit.then K (fun _ _ _ => False)) { tmps := (ps.zip (encs x)).foldl (fun t (p, v) => t.setIfInBounds p v) a.tmps, defers := [] } W)
    (hbody : ∀ (l : Nat) (m : Nat → Prop) pre x a' W, (∀ k, m k → w.heap.size ≤ k ∧ k < W.heap.size) → w.heap.size ≤ l → (∃ r, W.heap[l]? = some (.loop r)) → I m pre W → Ax x a' W → Part S (pre ++ [x]) →
      body.wpIn (Fence.wide.inRound l) 3 P (roundPZ w.heap.size m D I (fun c m pre W => c = .exit id ∧ Ix m pre W) (pre ++ [x]) W) a' W)
    (hafter : ∀ (E : Nat) W, w.heap.size ≤ E → A W → W.heap[E]? = some (.deferred (some [])) → Q .normal { a with defers := { target := .collected E, args := #[] } :: a.defers } W) :
    (Code.rangeFunc g ps assign body).wpIn Fence.wide 3 P (Exit.inBlock id Q) a w :=
  rangeZ_out hg eg hseq hb hn hps I (fun c m pre W => c = .exit id ∧ Ix m pre W) hI (fun c m m' s W W' hs ht hg => ⟨hs.1, hIx m m' s W W' hs.2 ht hg⟩) h0 Ax hAx hassign hbody
    (fun E m xs W hE hS hi hK => hafter E W hE (hIA m xs W hS hi) hK)
    (fun E c m pre W hE hp hi hK => by
      obtain ⟨rfl, hi⟩ := hi
      refine wpIn_exit ?_
      have := hafter E W hE (hIxA m pre W hp hi) hK
      simpa [Exit.inBlock] using this)

end core


section
variable {α γ : Type} {P : Program} {n : Nat} {D : List Deferred} {M : Slots}
/-- A range over a function, outermost, of which a round may break at most. -/
theorem CC.rangeZ {id gf : Nat} {Dk : Nat → Prop} {g : Operand} {ps : Array Tmp} {assign body : Code} {Q : Exit → Act → World → Prop} {w w0 : World} {lb : List Value} {encs : α → List Value} {S : List α → Prop}
    (hg : evM M g = some (.func (.func gf) #[] lb.toArray)) (eg : entB P gf = true) (hseq : GivesZ P gf lb.toArray (fun x => (encs x).toArray) Dk S w0) (hb : Below w0.heap.size w0 w) (hn : ∀ k, Dk k → k < w.heap.size) (hps : ∀ x, (encs x).length = ps.size) (hpn : (ps.toList.all fun p => Nat.blt p n) = true)
    (I Ix : (Nat → Prop) → List α → World → Prop) (A : World → Prop) (hI : AbidesZ w.heap.size I) (hIx : AbidesZ w.heap.size Ix) (h0 : I (fun _ => False) [] w) (hIA : ∀ m xs W, S xs → I m xs W → A W) (hIxA : ∀ m pre W, Part S pre → Ix m pre W → A W)
    (Mx : α → γ → Slots) (Ax : α → γ → World → Prop) (hAx : ∀ x c, OwnFrom w.heap.size (fun (_ : Unit) W => Ax x c W))
    (hassign : ∀ (l : Nat) (m : Nat → Prop) pre x W (K : Act → World → Prop), (∀ k, m k → w.heap.size ≤ k ∧ k < W.heap.size) → I m pre W → (∀ a' W' c, StaysZ w.heap.size m W W' → Keeps Dk W W' → I m pre W' → Fr n [] (Mx x c) a' → Ax x c W' → K a' W') → CC (some l) P (Exit.then K (fun _ _ _ => False)) n [] (psM M ps.toList (encs x)) assign W)
    (hbody : ∀ (l : Nat) (m : Nat → Prop) pre x c W, (∀ k, m k → w.heap.size ≤ k ∧ k < W.heap.size) → w.heap.size ≤ l → (∃ r, W.heap[l]? = some (.loop r)) → I m pre W → Ax x c W → Part S (pre ++ [x]) → CC (some l) P (roundPZ w.heap.size m Dk I (fun c m pre W => c = .exit id ∧ Ix m pre W) (pre ++ [x]) W) n [] (Mx x c) body W)
    (hafter : ∀ (E : Nat) W, w.heap.size ≤ E → A W → W.heap[E]? = some (.deferred (some [])) → EE Q n (mark E :: D) M .normal W) :
    CC none P (Exit.inBlock id Q) n D M (.rangeFunc g ps assign body) w := CC.mk fun a F => by
  refine rangeZ_break (gf := gf) (lb := lb.toArray) (F.ev hg) (ent_of eg) hseq hb hn (fun x => by simpa using hps x) I Ix A hI hIx h0 (fun x a' W => ∃ c, Fr n [] (Mx x c) a' ∧ Ax x c W) (fun x a' _ W W' row hs hg hr => by
    obtain ⟨c, hF, hc⟩ := hs
    exact ⟨c, hF, hAx x c () W W' row hc hg hr⟩) hIA hIxA ?_ ?_ ?_
  · intro l m pre x W K hm hi hK
    refine (hassign l m pre x W K hm hi fun a' W' c h1 h2 h3 h4 h5 => hK a' W' h1 h2 h3 ⟨c, h4, h5⟩).h _ ?_
    have F0 : Fr n [] M ⟨a.tmps, []⟩ := ⟨F.size, rfl, F.get⟩
    have := psM_fr ps.toList (encs x) M a.tmps [] F0 hpn
    have e : (ps.zip (encs x).toArray).foldl (fun t (p, v) => t.setIfInBounds p v) a.tmps = (ps.toList.zip (encs x)).foldl (fun t (p, v) => t.setIfInBounds p v) a.tmps := by
      obtain ⟨l⟩ := ps
      rw [← Array.foldl_toList]
      simp
    rw [e]
    exact this
  · intro l m pre x a' W hm hl hr hi hax hp
    obtain ⟨c, hF, hc⟩ := hax
    exact (hbody l m pre x c W hm hl hr hi hc hp).h a' hF
  · intro E W hE hA hd
    exact (hafter E W hE hA hd).h _ ⟨F.size, by rw [F.defers]; rfl, F.get⟩
theorem EE.roundNZ {B : Nat} {m : Nat → Prop} {Dk : Nat → Prop} {I : (Nat → Prop) → List α → World → Prop} {Ix : Code → (Nat → Prop) → List α → World → Prop} {xs : List α} {W w : World} (h : StaysZ B m W w ∧ Keeps Dk W w ∧ I m xs w) : EE (roundPZ B m Dk I Ix xs W) n D M .normal w := EE.mk fun _ _ => h
theorem EE.roundXZ {B id : Nat} {m : Nat → Prop} {Dk : Nat → Prop} {I : (Nat → Prop) → List α → World → Prop} {Ix : Code → (Nat → Prop) → List α → World → Prop} {xs : List α} {W w : World} (h : StaysZ B m W w ∧ Ix (.exit id) m xs w) : EE (roundPZ B m Dk I Ix xs W) n D M (.exit id) w := EE.mk fun _ _ => h
end
end Go.Proofs.YtompfnnmiccipaaGreatDoor
/- Regions that draw their order, whose steps yield the same values in whatever world that is left as it is but for new memory: one walk for all orders, calls that make memory of their own among them. Over any program. -/
namespace Go.Proofs.YtompfnnmiccipaaGreatDoor
set_option linter.unusedVariables false
set_option linter.unusedSimpArgs false
open Go.RowKit Go.Shelf

section
variable {P : Program} {ops : Array Oper} {Q : Exit → Act → World → Prop} {ok : World → Prop} {r : Option Nat} {v : Value} {o : Oper}

/-- It yields v in all these worlds, and leaves one of them. -/
def YG (P : Program) (ops : Array Oper) (ok : World → Prop) (o : Oper) (v : Value) (a : Act) : Prop :=
  (Region.wanted o (yielded ops a.tmps) = true ∧ ∀ w, ok w → (execOp a.eval o).run P w = .ok (.value v) w ∨ ∃ f args, (execOp a.eval o).run P w = .ok (.enter f args) w ∧ Calls P f args w (fun e w' => e = .returned v ∧ ok w')) ∨
  (Region.wanted o (yielded ops a.tmps) = false ∧ v = undef)
theorem YG.same {a a' : Act} (hy : YG P ops ok o v a) (he : execOp a'.eval o = execOp a.eval o) (hw : Region.wanted o (yielded ops a'.tmps) = Region.wanted o (yielded ops a.tmps)) : YG P ops ok o v a' := by
  unfold YG at *
  rw [he, hw]
  exact hy
/-- One walk, in the order of the text. -/
def walkG (P : Program) (ops : Array Oper) (ok : World → Prop) (K : Act → Prop) : List Oper → Act → Prop
  | [], a => K a
  | o :: l, a => ∃ v, YG P ops ok o v a ∧ walkG P ops ok K l (a.put o.dst v)
/-! Goals. -/
structure GG (P : Program) (ops : Array Oper) (ok : World → Prop) (K : Act → Prop) (n : Nat) (D : List Deferred) (M : Slots) (l : List Oper) : Prop where
  h : ∀ a, Fr n D M a → walkG P ops ok K l a
variable {n : Nat} {D : List Deferred} {M : Slots} {rest l : List Oper} {K : Act → Prop} {w : World}
theorem GG.val (hr : ∀ w, ok w → Runs P n D M o w (.value v) w) (hd : dstB n o.dst = true) (hg : wantB ops M o.guard = some true) (k : GG P ops ok K n D (putM M o.dst v) rest) : GG P ops ok K n D M (o :: rest) := GG.mk fun a F =>
  ⟨v, .inl ⟨F.want hg, fun w hw => .inl (hr w hw a F)⟩, k.h _ (F.put _ _ hd)⟩
theorem GG.skip (hd : dstB n o.dst = true) (hg : wantB ops M o.guard = some false) (k : GG P ops ok K n D (putM M o.dst undef) rest) : GG P ops ok K n D M (o :: rest) := GG.mk fun a F =>
  ⟨undef, .inr ⟨F.want hg, rfl⟩, k.h _ (F.put _ _ hd)⟩
theorem GG.call {f : FuncId} {args : Array Value} (hr : ∀ w, Runs P n D M o w (.enter f args) w) (hd : dstB n o.dst = true) (hg : wantB ops M o.guard = some true) (hc : ∀ w, ok w → Calls P f args w fun e w' => e = .returned v ∧ ok w') (k : GG P ops ok K n D (putM M o.dst v) rest) : GG P ops ok K n D M (o :: rest) := GG.mk fun a F =>
  ⟨v, .inl ⟨F.want hg, fun w hw => .inr ⟨f, args, hr w a F, hc w hw⟩⟩, k.h _ (F.put _ _ hd)⟩
theorem GG.vsplit {p : Prop} [Decidable p] (ht : p → ∀ w, ok w → Runs P n D M o w (.value (.bool true)) w) (hf : ¬p → ∀ w, ok w → Runs P n D M o w (.value (.bool false)) w) (hd : dstB n o.dst = true) (hg : wantB ops M o.guard = some true)
    (k1 : p → GG P ops ok K n D (putM M o.dst (.bool true)) rest) (k2 : ¬p → GG P ops ok K n D (putM M o.dst (.bool false)) rest) : GG P ops ok K n D M (o :: rest) := by
  by_cases h : p
  · exact GG.val (ht h) hd hg (k1 h)
  · exact GG.val (hf h) hd hg (k2 h)
theorem GG.nil (k : ∀ w, ok w → LL r P ops Q n D M l w) : GG P ops ok (fun a => ∀ w, ok w → wpListIn (Wr r) 3 P ops Q l a w) n D M [] := GG.mk fun a F w hw => (k w hw).h a F
theorem GG.nilQ (k : ∀ w, ok w → EE Q n D M .normal w) : GG P ops ok (fun a => ∀ w, ok w → Q .normal a w) n D M [] := GG.mk fun a F w hw => (k w hw).h a F
theorem GG.keep (L : List (Nat × Value)) (hL : Fits M L) (h : GG P ops ok K n D (sl L) rest) : GG P ops ok K n D M rest := GG.mk fun a F => h.h a (F.keep L hL)
end
end Go.Proofs.YtompfnnmiccipaaGreatDoor
/- What the tool that writes walks takes in regions that draw their order and make memory: steps in any order. Over any program. -/
namespace Go.Proofs.YtompfnnmiccipaaGreatDoor
set_option linter.unusedVariables false
set_option linter.unusedSimpArgs false
open Go.RowKit Go.Shelf
section
variable {P : Program} {ops : Array Oper} {l : List Oper} {w w' : World} {o : Oper} {n i f : Nat} {D : List Deferred} {M : Slots} {v : Value} {r : Option Nat} {Q : Exit → Act → World → Prop} {ok : World → Prop} {listed : Array Bool} {t : TypeId} {x y : Operand} {K : Slots → World → Prop}
theorem CC.freeZ {id : Nat} (K : World → Nat → Prop) (hm : P.follows .mixedOrders = true) (hB : selB l = true)
    (h : ∀ w1, Below w.heap.size w w1 → w1.heap.size = w.heap.size → AA P l.toArray (fun W => Kept (K w1) w1 W) Q n D M l.length (Array.replicate l.length false) w1) : CC r P Q n D M (.region id l.toArray true) w :=
  CC.free _ hm hB (h _ below_drew rfl)
theorem fzRow {K : Nat → Prop} {g e : Nat} {xs : List Value} (h : RowL w g e xs) (hg : K g) : ∀ w', Kept K w w' → RowL w' g e xs := fun _ hk => h.kept hk hg
theorem AA.vsplit {p : Prop} [Decidable p] (i : Nat) (hi : ops[i]? = some o) (hw : ok w) (hB : rfB ops listed i = true) (ht : ∀ w', ok w' → p → Runs P n D M o w' (.value (.bool true)) w') (hf : ∀ w', ok w' → ¬p → Runs P n D M o w' (.value (.bool false)) w') (hd : dstB n o.dst = true) (hg : wantB ops M o.guard = some true)
    (k1 : p → AA P ops ok Q n D (putM M o.dst (.bool true)) f (listed.setIfInBounds i true) w) (k2 : ¬p → AA P ops ok Q n D (putM M o.dst (.bool false)) f (listed.setIfInBounds i true) w) : AA P ops ok Q n D M (f + 1) listed w := by
  by_cases h : p
  · exact AA.pure i hi hw hB (fun w' b => ht w' b h) hd hg (k1 h)
  · exact AA.pure i hi hw hB (fun w' b => hf w' b h) hd hg (k2 h)
theorem ZR.alloc (cs : List Value) (hi : ops[i]? = some o) (ho : o.op = .alloc t) (hz : zeroB P t = some v) (hcs : v.cells = cs.toArray) (hd : dstB n o.dst = true) (hg : wantB ops M o.guard = some true)
    (c : ∀ w1 g, g = w.heap.size → RowL w1 g t cs → w1.heap.size = g + 1 → Below w.heap.size w w1 → ok w1 ∧ K (putM M o.dst (.pointer (some ⟨g, 0, none⟩))) w1) : SR P ops ok i K n D M w :=
  have h := c _ _ rfl (RowL.new w t cs) (by simp) (Below.alloc0 w _)
  SR.val hi (R.alloc ho (run_alloc hz hcs)) hd hg h.1 h.2
theorem ZR.box (cs : List Value) (hi : ops[i]? = some o) (ho : o.op = .box t x) (hx : evM M x = some v) (hcs : v.cells = cs.toArray) (hd : dstB n o.dst = true) (hg : wantB ops M o.guard = some true)
    (c : ∀ w1 g, g = w.heap.size → RowL w1 g t cs → w1.heap.size = g + 1 → Below w.heap.size w w1 → ok w1 ∧ K (putM M o.dst (.pointer (some ⟨g, 0, none⟩))) w1) : SR P ops ok i K n D M w :=
  have h := c _ _ rfl (RowL.new w t cs) (by simp) (Below.alloc0 w _)
  SR.val hi (R.box ho hx (run_box hcs)) hd hg h.1 h.2
theorem ZR.lit {e k : Nat} {ps : Array (Nat × Operand)} {vs : List (Nat × Value)} (cs : List Value) (len : Nat) (hi : ops[i]? = some o) (ho : o.op = .buildSlice t k ps) (hx : evpM M ps.toList = some vs) (hr : ∀ w, (Instr.buildSlice t k vs.toArray).run P w = .ok (.slice (some ⟨w.heap.size, 0, none⟩) len len) (w.alloc (.cells cs.toArray e))) (hd : dstB n o.dst = true) (hg : wantB ops M o.guard = some true)
    (c : ∀ w1 g, g = w.heap.size → RowL w1 g e cs → w1.heap.size = g + 1 → Below w.heap.size w w1 → ok w1 ∧ K (putM M o.dst (.slice (some ⟨g, 0, none⟩) len len)) w1) : SR P ops ok i K n D M w :=
  have h := c _ _ rfl (RowL.new w e cs) (by simp) (Below.alloc0 w _)
  SR.val hi (R.buildSlice ho hx (hr w)) hd hg h.1 h.2
theorem ZR.store {g off e : Nat} {xs : List Value} (hi : ops[i]? = some o) (ho : o.op = .store t x y) (hx : evM M x = some (.pointer (some ⟨g, off, none⟩))) (hy : evM M y = some v) (hz : szB P t = some 1) (hr : RowL w g e xs) (hl : off < xs.length) (h1 : v.oneCell' = true) (hcs : v.cells = #[v]) (hd : o.dst = none) (hg : wantB ops M o.guard = some true)
    (c : ∀ w1, RowL w1 g e (xs.set off v) → w.grownBy w1 (some g) → w1.heap.size = w.heap.size → ok w1 ∧ K M w1) : SR P ops ok i K n D M w := SR.mk fun K' hK a F => by
  have h := c _ (hr.set off v) (grown_set w _ v) (by simp [World.setCell])
  unfold stepR
  simp only [hi]
  rw [if_pos (F.want hg)]
  refine .inr (.inl ⟨_, R.store ho hx hy (I.st1R hz hr hl h1 hcs) a F, h.1, ?_⟩)
  rw [hd]
  exact hK _ _ h.2 _ F
theorem ZR.storeN {vs : List Value} {g off e : Nat} {xs : List Value} (hi : ops[i]? = some o) (ho : o.op = .store t x y) (hx : evM M x = some (.pointer (some ⟨g, off, none⟩))) (hy : evM M y = some (.agg vs.toArray)) (hz : szB P t = some vs.length) (hr : RowL w g e xs) (hl : off + vs.length ≤ xs.length) (h1 : ∀ u ∈ vs, u.oneCell' = true) (hd : o.dst = none) (hg : wantB ops M o.guard = some true)
    (c : ∀ w1, RowL w1 g e (xs.take off ++ vs ++ xs.drop (off + vs.length)) → w.grownBy w1 (some g) → w1.heap.size = w.heap.size → ok w1 ∧ K M w1) : SR P ops ok i K n D M w := SR.mk fun K' hK a F => by
  obtain ⟨w', hrun, hrow, hgr, hsz⟩ := I.stN (t := t) hz hr hl h1
  have h := c w' hrow hgr hsz
  unfold stepR
  simp only [hi]
  rw [if_pos (F.want hg)]
  refine .inr (.inl ⟨_, R.store ho hx hy hrun a F, h.1, ?_⟩)
  rw [hd]
  exact hK _ _ h.2 _ F
/-- A write into another block. -/
theorem Reads.gr {g b off len cap : Nat} {xs : List Value} (h : Reads w (.slice (some ⟨b, off, none⟩) len cap) xs) (hg : w.grownBy w' (some g)) (hne : b ≠ g) : Reads w' (.slice (some ⟨b, off, none⟩) len cap) xs := by
  obtain ⟨a, c, e, hc, hr⟩ := h
  refine ⟨a, c, e, hc, fun hx => ?_⟩
  obtain ⟨b', off', ea, hb, hcell⟩ := hr hx
  simp only [Value.slice.injEq] at e
  rw [← e.1] at ea
  simp only [Option.some.injEq, Addr.mk.injEq] at ea
  obtain ⟨rfl, rfl, _⟩ := ea
  refine ⟨b, off, by rw [← e.1], Nat.lt_of_lt_of_le hb hg.size, fun j hj => ?_⟩
  rw [← hcell j hj]
  exact World.cell?_of_block (hg.block b hb (by simpa using hne))
end
end Go.Proofs.YtompfnnmiccipaaGreatDoor
/- One element is appended to a slice that is full: a new row. Over any program. -/
namespace Go.Proofs.YtompfnnmiccipaaGreatDoor
set_option linter.unusedVariables false
set_option linter.unusedSimpArgs false
open Go.RowKit

end Go.Proofs.YtompfnnmiccipaaGreatDoor
/- Parts of slices. Over any program. -/
namespace Go.Proofs.YtompfnnmiccipaaGreatDoor
set_option linter.unusedVariables false
set_option linter.unusedSimpArgs false
open Go.RowKit Go.Shelf
section
variable {P : Program} {w : World} {T : TypeId} {e k : Nat}
theorem SR.storeN {ops : Array Oper} {ok : World → Prop} {i : Nat} {K : Slots → World → Prop} {n : Nat} {D : List Deferred} {M : Slots} {o : Oper} {x y : Operand} {t : TypeId} {g off e : Nat} {xs vs : List Value} (hi : ops[i]? = some o) (ho : o.op = .store t x y) (hx : evM M x = some (.pointer (some ⟨g, off, none⟩))) (hy : evM M y = some (.agg vs.toArray)) (hz : szB P t = some vs.length) (hr : RowL w g e xs) (hl : off + vs.length ≤ xs.length) (h1 : ∀ u ∈ vs, u.oneCell' = true) (hd : o.dst = none) (hg : wantB ops M o.guard = some true)
    (c : ∀ w1, RowL w1 g e (xs.take off ++ vs ++ xs.drop (off + vs.length)) → w.grownBy w1 (some g) → w1.heap.size = w.heap.size → ok w1 ∧ K M w1) : SR P ops ok i K n D M w := SR.mk fun K' hK a F => by
  obtain ⟨w', hrun, hrow, hgr, hsz⟩ := I.stN hz hr hl h1
  have h := c w' hrow hgr hsz
  unfold stepR
  simp only [hi]
  rw [if_pos (F.want hg)]
  refine .inr (.inl ⟨_, R.store ho hx hy hrun a F, h.1, ?_⟩)
  rw [hd]
  exact hK _ _ h.2 _ F
end
end Go.Proofs.YtompfnnmiccipaaGreatDoor
/- Slices of tuples for the tool that writes walks: facts that are carried; two slices of one's own, one beside the other. Over any program. -/
namespace Go.Proofs.YtompfnnmiccipaaGreatDoor
set_option linter.unusedVariables false
set_option linter.unusedSimpArgs false
open Go.RowKit Go.Shelf
section
variable {α β : Type} {enc : α → List Value} {k e : Nat} {w w' : World} {v : Value} {ts : List α}
theorem Cells.up {b o : Nat} {vs : List Value} (h : Cells w ⟨b, o, none⟩ vs) (hb : Below w.heap.size w w') : Cells w' ⟨b, o, none⟩ vs := fun j u hu => by
  have h1 := h j u hu
  rw [Addr.add_lit] at h1 ⊢
  exact (World.cell?_of_block (hb.block b (World.block_lt_of_cell? w _ h1))).trans h1
theorem Cells.gr {b o g : Nat} {vs : List Value} (h : Cells w ⟨b, o, none⟩ vs) (hg : w.grownBy w' (some g)) (hne : b ≠ g) : Cells w' ⟨b, o, none⟩ vs := fun j u hu => by
  have h1 := h j u hu
  rw [Addr.add_lit] at h1 ⊢
  exact (World.cell?_of_block (hg.block b (World.block_lt_of_cell? w _ h1) (by simpa using hne))).trans h1
theorem Below.of_none (h : w.grownBy w' none) : Below w.heap.size w w' := (Below.refl _ _).grown h (Nat.le_refl _) fun j ej => by cases ej
theorem Kept.onB {w0 : World} {n : Nat} {K : Nat → Prop} (k : Kept K w w') (h : Below n w0 w) (hK : ∀ j, j < n → K j) : Below n w0 w' :=
  ⟨k.os.trans h.os, k.tape.trans h.tape, k.output.trans h.output, Nat.le_trans h.size k.size, fun j hj => (k.block j (hK j hj)).trans (h.block j hj)⟩
/-- What an append to another slice leaves. -/
theorem OwnsT.apart {r : Option Nat} {base : Nat} (h : OwnsT enc k w base e v ts) (hg : w.grownBy w' r) (hne : v.ownBlock = Option.none ∨ v.ownBlock ≠ r) : OwnsT enc k w' base e v ts := by
  cases r with
  | none => exact h.up (Below.of_none hg)
  | some g =>
    rcases hne with hne | hne
    · exact h.grown hg (by rw [hne]; simp)
    · exact h.grown hg hne
theorem RowL.grO {r : Option Nat} {g : Nat} {xs : List Value} (h : RowL w g e xs) (hg : w.grownBy w' r) (hr : r ≠ some g) : RowL w' g e xs := by
  cases r with
  | none => exact h.up (Below.of_none hg)
  | some b => exact h.gr hg (fun e => hr (by rw [e]))
theorem ReadsT.gr {g b off n cap : Nat} (h : ReadsT enc k w (.slice (some ⟨b, off, none⟩) n cap) ts) (hg : w.grownBy w' (some g)) (hne : b ≠ g) : ReadsT enc k w' (.slice (some ⟨b, off, none⟩) n cap) ts := h.grown hg fun x n' c' e _ => by
  simp only [Value.slice.injEq, Option.some.injEq] at e
  rw [← e.1]
  exact hne
theorem own_lt {base : Nat} (h : OwnsT enc k w base e v ts) : v.ownBlock = Option.none ∨ ∃ b, v.ownBlock = some b ∧ b < w.heap.size := by
  rcases h.above with h | ⟨b, h, _, hl⟩
  · exact .inl h
  · exact .inr ⟨b, h, hl⟩
theorem own_ge {base : Nat} (h : OwnsT enc k w base e v ts) : ∀ g, v.ownBlock = some g → base ≤ g := by
  intro g hg
  rcases h.above with h | ⟨b, h, hb, _⟩
  · rw [h] at hg; cases hg
  · rw [h] at hg; cases hg; exact hb
theorem own_ne {base g : Nat} (h : OwnsT enc k w base e v ts) (hg : g < base) : v.ownBlock ≠ some g := fun e => by
  have := own_ge h g e
  omega
end
section
variable {P : Program} {w : World} {T TI e : TypeId} {z : Value} {bytes : Nat} {kn : IntKind} {o : Oper} {n i : Nat} {D : List Deferred} {M : Slots} {ops : Array Oper} {ok : World → Prop} {K : Slots → World → Prop}
theorem ZR.append {xs : Array Operand} {v vx : Value} {base m : Nat} {us ys : List Value} (hi : ops[i]? = some o) (ho : o.op = .call { callee := .builtin .append, args := xs, argTypes := #[T, T] }) (hx : evsM M xs.toList = some [v, vx]) (I : El P T e z bytes) (hown : w.ownsRow base e 1 v m us) (hr : Reads w vx ys) (hone : ∀ u ∈ ys, u.oneCell' = true)
    (h63 : m + ys.length ≤ maxLen) (hb : (m + ys.length) * bytes ≤ 140737488355328) (hbase : base ≤ w.heap.size) (hd : dstB n o.dst = true) (hg : wantB ops M o.guard = some true)
    (k : ∀ v' w', w'.ownsRow base e 1 v' (m + ys.length) (us ++ ys) → w.grownBy w' v.ownBlock → ok w' ∧ K (putM M o.dst v') w') : SR P ops ok i K n D M w := by
  obtain ⟨v', w', h1, h2, h3⟩ := run_append_all I o.type hown hr hone h63 hb hbase
  have h := k v' w' h2 h3
  refine SR.val (v := v') hi (R.builtin ho hx fun b => ?_) hd hg h.1 h.2
  unfold builtin
  simp only [Sem.run_bind, h1, Result.andThen_ok, Sem.run_pure]
end
end Go.Proofs.YtompfnnmiccipaaGreatDoor
/- Slices of one's own that grow in the rounds of a range over a function; facts that such a range leaves. Over any program. -/
namespace Go.Proofs.YtompfnnmiccipaaGreatDoor
set_option linter.unusedVariables false
set_option linter.unusedSimpArgs false
open Go.RowKit Go.Shelf
section
variable {α : Type} {enc : α → List Value} {k e B : Nat} {m : Nat → Prop} {w w' : World} {v : Value} {ts : List α}
theorem OwnsT.same {base : Nat} (h : OwnsT enc k w base e v ts) (hz : w.heap.size ≤ w'.heap.size) (hs : ∀ (g : Nat) (cs : Array Value), v.ownBlock = some g → w.heap[g]? = some (.cells cs e) → w'.heap[g]? = some (.cells cs e)) : OwnsT enc k w' base e v ts := by
  rcases id h.2 with ⟨e1, e2⟩ | ⟨g, cap, cur, rfl, hbg, hg, r⟩
  · exact ⟨h.1, .inl ⟨e1, e2⟩⟩
  · exact ⟨h.1, .inr ⟨g, cap, cur, rfl, hbg, hs g cur rfl hg, r⟩⟩
theorem OwnsT.turn {base : Nat} (h : OwnsT enc k w base e v ts) (ht : TurnsZ B m w w') (hm : ∀ g, v.ownBlock = some g → ¬ m g) : OwnsT enc k w' base e v ts :=
  h.same ht.size fun g cs hg hx => ht.same g _ hx (.inr ⟨hm g hg, rfl⟩)
theorem TurnsZ.cell {b o : Nat} {u : Value} (ht : TurnsZ B m w w') (h : w.cell? ⟨b, o, none⟩ = some u) (hb : b < B) : w'.cell? ⟨b, o, none⟩ = some u := by
  have hlt := World.block_lt_of_cell? _ _ h
  have hx := Array.getElem?_eq_getElem hlt
  exact (World.cell?_of_block ((ht.same b _ hx (.inl hb)).trans hx.symm)).trans h
theorem Reads.sameB {b off len cap : Nat} {xs : List Value} (h : Reads w (.slice (some ⟨b, off, none⟩) len cap) xs) (hz : w.heap.size ≤ w'.heap.size) (hs : ∀ o, w.heap[b]? = some o → w'.heap[b]? = some o) : Reads w' (.slice (some ⟨b, off, none⟩) len cap) xs := by
  obtain ⟨a, c, e, hc, hr⟩ := h
  refine ⟨a, c, e, hc, fun hx => ?_⟩
  obtain ⟨b', off', ea, hb, hcell⟩ := hr hx
  simp only [Value.slice.injEq] at e
  rw [← e.1] at ea
  simp only [Option.some.injEq, Addr.mk.injEq] at ea
  obtain ⟨rfl, rfl, _⟩ := ea
  refine ⟨b, off, by rw [← e.1], Nat.lt_of_lt_of_le hb hz, fun j hj => ?_⟩
  rw [← hcell j hj]
  have hx := Array.getElem?_eq_getElem hb
  exact World.cell?_of_block ((hs _ hx).trans hx.symm)
theorem Reads.turn {b off len cap : Nat} {xs : List Value} (h : Reads w (.slice (some ⟨b, off, none⟩) len cap) xs) (ht : TurnsZ B m w w') (hb : b < B) : Reads w' (.slice (some ⟨b, off, none⟩) len cap) xs :=
  h.sameB ht.size fun o ho => ht.same b o ho (.inl hb)
theorem Reads.grO {b off len cap : Nat} {r : Option Nat} {xs : List Value} (h : Reads w (.slice (some ⟨b, off, none⟩) len cap) xs) (hg : w.grownBy w' r) (hr : r ≠ some b) : Reads w' (.slice (some ⟨b, off, none⟩) len cap) xs := by
  cases r with
  | none => exact h.up (Below.of_none hg)
  | some g => exact h.gr hg (fun e => hr (by rw [e]))
theorem ReadsT.sameB {b off len cap : Nat} (h : ReadsT enc k w (.slice (some ⟨b, off, none⟩) len cap) ts) (hz : w.heap.size ≤ w'.heap.size) (hs : ∀ o, w.heap[b]? = some o → w'.heap[b]? = some o) : ReadsT enc k w' (.slice (some ⟨b, off, none⟩) len cap) ts := by
  obtain ⟨a, c, e, hc, hr⟩ := h
  refine ⟨a, c, e, hc, fun hx => ?_⟩
  obtain ⟨b', off', ea, hb, hcell⟩ := hr hx
  simp only [Value.slice.injEq] at e
  rw [← e.1] at ea
  simp only [Option.some.injEq, Addr.mk.injEq] at ea
  obtain ⟨rfl, rfl, _⟩ := ea
  refine ⟨b, off, by rw [← e.1], Nat.lt_of_lt_of_le hb hz, ?_⟩
  have hx := Array.getElem?_eq_getElem hb
  have hbk := (hs _ hx).trans hx.symm
  intro j hj
  rw [← hcell j hj]
  exact World.cell?_of_block hbk
/-- A write into a slice of one's own, in a round. -/
theorem StaysZ.own {base : Nat} (h : OwnsT enc k w base e v ts) (hg : w.grownBy w' v.ownBlock) (hm : ∀ g, v.ownBlock = some g → ¬ m g) : StaysZ B m w w' := by
  refine ⟨hg.size, fun j o hb hj hc => ?_⟩
  have hlt := (Array.getElem?_eq_some_iff.1 hj).1
  refine (hg.block j hlt fun ej => ?_).trans hj
  rcases id h.2 with ⟨e1, e2⟩ | ⟨g, cap, cur, rfl, hbg, hgg, r⟩
  · rw [e1] at ej; cases ej
  · have ej' : j = g := by simpa [Value.ownBlock] using ej
    subst ej'
    rcases hc with hc | hc
    · exact hm j rfl hc
    · rw [hgg] at hj; cases hj; cases hc
theorem own_later {base : Nat} {m' : Nat → Prop} (o : OwnsT enc k w base e v ts) (hm : ∀ g, v.ownBlock = some g → ¬ m g) (hg : ∀ j, m' j → m j ∨ w.heap.size ≤ j) : ∀ g, v.ownBlock = some g → ¬ m' g := fun g hgv h => by
  rcases hg g h with h | h
  · exact hm g hgv h
  · rcases own_lt o with e1 | ⟨b, e1, hb⟩
    · rw [e1] at hgv; cases hgv
    · rw [e1] at hgv; cases hgv; omega
theorem own_taken {base E : Nat} (o : OwnsT enc k w base e v ts) (hE : w.heap[E]? = some (.deferred (some []))) : OwnsT enc k (taken E w) base e v ts :=
  o.same (by simp [taken]) fun g cs hg hx => (World.putObj_heap_other (fun e => by subst e; rw [hE] at hx; cases hx)).trans hx
theorem own_new {v' : Value} (h1 : v'.ownBlock = v.ownBlock ∨ ∃ b, v'.ownBlock = some b ∧ w.heap.size ≤ b) (hm : ∀ g, v.ownBlock = some g → ¬ m g) (hlt : ∀ j, m j → j < w.heap.size) : ∀ g, v'.ownBlock = some g → ¬ m g := fun g hg => by
  rcases h1 with h1 | ⟨b, h1, hb⟩
  · exact hm g (by rw [← h1]; exact hg)
  · rw [h1] at hg; cases hg
    intro h
    have := hlt _ h
    omega
end
end Go.Proofs.YtompfnnmiccipaaGreatDoor
/- A walk that writes one block that was there, and new ones: what it keeps. -/
namespace Go.Proofs.YtompfnnmiccipaaGreatDoor
set_option linter.unusedVariables false
set_option linter.unusedSimpArgs false
open Go.RowKit Go.Shelf
/-- All blocks that were there stay, but g. -/
def Gw (g : Nat) (w0 w : World) : Prop := Kept (fun j => j < w0.heap.size ∧ j ≠ g) w0 w
section
variable {w0 w w' : World} {g r : Nat}
theorem Gw.refl (g : Nat) (w : World) : Gw g w w := Kept.refl _ _
theorem Gw.size (h : Gw g w0 w) : w0.heap.size ≤ w.heap.size := Kept.size h
theorem Gw.gr (h : Gw g w0 w) (hb : w.grownBy w' (some r)) (e : r = g ∨ w0.heap.size ≤ r) : Gw g w0 w' :=
  Kept.trans h (grown_kept hb (fun j hj => Nat.lt_of_lt_of_le hj.1 h.size) (fun j hj e' => by cases e'; rcases e with e | e; exact hj.2 e; exact absurd hj.1 (Nat.not_lt.2 e)))
theorem Gw.up (h : Gw g w0 w) (hb : Below w.heap.size w w') : Gw g w0 w' :=
  Kept.trans h (bkept hb (fun j hj => Nat.lt_of_lt_of_le hj.1 h.size))
theorem Gw.kept (h : Gw g w0 w) (hk : Kept (fun j => j < w.heap.size ∧ j ≠ r) w w') (e : r = r ∧ (r = g ∨ w0.heap.size ≤ r)) : Gw g w0 w' :=
  Kept.trans h (hk.less fun j hj => ⟨Nat.lt_of_lt_of_le hj.1 h.size, fun e' => by rcases e.2 with e | e; exact hj.2 (e'.trans e); exact absurd hj.1 (by omega)⟩)
/-- Where g is new to who called, nothing of what was there has changed. -/
theorem Gw.bel {w1 : World} (h : Gw g w0 w) (hb : Below w1.heap.size w1 w0) (hg : w1.heap.size ≤ g) : Below w1.heap.size w1 w :=
  Kept.bel ((bkept hb fun _ h => h).trans (Kept.less h fun j hj => ⟨Nat.lt_of_lt_of_le hj hb.size, fun e => absurd hj (by omega)⟩))
end
end Go.Proofs.YtompfnnmiccipaaGreatDoor
/- A scope in which the run jumps ahead to a label. Over any program. -/
namespace Go.Proofs.YtompfnnmiccipaaGreatDoor
set_option linter.unusedVariables false
set_option linter.unusedSimpArgs false
open Go.RowKit Go.Shelf

section
variable {P : Program} {w : World} {n : Nat} {D : List Deferred} {M : Slots} {Q : Exit → Act → World → Prop}
theorem CC.fwd {α : Type} {l : Nat} {c rest : Code} (Dx : α → List Deferred) (L : α → List (Nat × Value)) (I : α → World → Prop) (hf : findLabel c l = some rest)
    (first : CC none P (Exit.jump l (fun a' w' => ∃ x, Fr n (Dx x) (sl (L x)) a' ∧ I x w') Q) n D M c w)
    (pass : ∀ x w, I x w → CC none P (Exit.jump l (fun _ _ => False) Q) n (Dx x) (sl (L x)) rest w) : CC none P Q n D M (.scope c) w := CC.mk fun a F => by
  refine (wpIn_wide (n := 3)).2 (wp_scope_jumps l (fun a' w' => ∃ x, Fr n (Dx x) (sl (L x)) a' ∧ I x w') (fun _ _ => 0) hf ((wpIn_wide (n := 3)).1 (first.h a F)) ?_)
  rintro a w ⟨x, hF, hI⟩
  refine (wpIn_wide (n := 3)).1 (Code.wpIn_mono ?_ ((pass x w hI).h a hF))
  intro e a' w' hq
  cases e <;> try exact hq
  exact hq.2.elim
theorem EE.jumpTo {α : Type} {l : Nat} {Dx : α → List Deferred} {L : α → List (Nat × Value)} {I : α → World → Prop} (x : α) (hD : D = Dx x) (hL : Fits M (L x)) (hI : I x w) : EE (Exit.jump l (fun a' w' => ∃ x, Fr n (Dx x) (sl (L x)) a' ∧ I x w') Q) n D M (.goto l) w := EE.mk fun _ F => ⟨rfl, x, by subst hD; exact F.keep _ hL, hI⟩
end
end Go.Proofs.YtompfnnmiccipaaGreatDoor
/- stream: a stream in memory; none, Over, Cursor, Call, Seek, New (written by genst0.py). -/
namespace Go.Proofs.YtompfnnmiccipaaGreatDoor
set_option linter.unusedVariables false
set_option linter.unusedSimpArgs false
open Go.RowKit Go.Shelf
theorem info_parts_t {P : Program} {T e : TypeId} {z : Value} {k bytes : Nat} (hu : P.underlying T = some (.slice e)) (h : (P.info? e).map (fun i => (i.zero, i.size, i.bytes)) = some (some z, k, bytes)) (hz : z.cells.size = k) : ElT P T e z k bytes := by
  refine ⟨hu, ?_, hz⟩
  cases hi : P.info? e with
  | none => rw [hi] at h; cases h
  | some i =>
    rw [hi] at h
    simp only [Option.map_some, Option.some.injEq, Prod.mk.injEq] at h
    exact ⟨i, rfl, h.1, h.2.1, h.2.2⟩

set_option maxRecDepth 100000
set_option maxHeartbeats 8000000
/-- A name: its key, its signs, its inode. -/
abbrev Nm := Nat × Bs × Int
def nmE (n : Nm) : List Value := [.int .u64 (n.1 : Int), strV n.2.1, .int .i64 n.2.2]
theorem nmEnc : Enc nmE 3 := ⟨fun _ => rfl, fun t u hu => by
  simp only [nmE, List.mem_cons, List.not_mem_nil, or_false] at hu
  rcases hu with rfl | rfl | rfl <;> rfl, by decide⟩
theorem Tryz.infoNm : (Tryz.prog.info? 56).map (fun i => (i.zero, i.size, i.bytes)) = some (some (.agg #[.int .u64 0, strV [], .int .i64 0]), 3, 32) := by kernel_rfl
theorem ElNm : ElT Tryz.prog 25 56 (.agg #[.int .u64 0, strV [], .int .i64 0]) 3 32 := info_parts_t Tryz.underlying25 Tryz.infoNm rfl
abbrev stL (p : Bs) (many : Int) (key : Nat) (tv : Value) (over : Bool) (why : Int) (mk : Bool) : List Value := [.int .i64 14, strV p, strV [], .int .i64 0, .int .i64 many, .int .u64 (key : Int), .slice none 0 0, tv, .bool over, .int .i64 why, .bool mk]
abbrev caV (k : Int) (p : Bs) (many : Int) (key : Nat) : Value := .agg #[.int .i64 k, strV p, strV [], .int .i64 0, .int .i64 many, .int .u64 (key : Int), .slice none 0 0]
section
variable (g : Nat) {p : Bs} {many : Int} {key : Nat} {tv : Value} {over : Bool} {why : Int} {w : World}
theorem snone_any (h : RowL w g 36 (stL p many key tv over why true)) : Calls Tryz.prog 14 #[.pointer (some ⟨g, 0, none⟩)] w fun e w' => e = .returned (.bool false) ∧ w = w' := by
  refine X.fn Tryz.func14 rfl (n := 12) rfl rfl ?_
  refine CC.seq ?_
  refine CC.region ?_
  refine LL.val (R.assign rfl rfl) rfl rfl rfl ?_
  refine LL.nilS ?_
  refine CC.seq ?_
  refine CC.region ?_
  refine LL.val (R.move rfl rfl) rfl rfl rfl ?_
  refine LL.val (R.eqPtr rfl rfl rfl rfl rfl) rfl rfl rfl ?_
  refine LL.val (R.move rfl rfl) rfl rfl rfl ?_
  refine LL.val (R.move rfl rfl) rfl rfl rfl ?_
  refine LL.val (R.nil rfl rfl) rfl rfl rfl ?_
  refine LL.val (R.field rfl rfl (I.fld rfl)) rfl rfl rfl ?_
  refine LL.val (R.load rfl rfl (I.ld1 rfl (RowL.cell h rfl))) rfl rfl rfl ?_
  refine LL.val (R.not rfl rfl) rfl rfl rfl ?_
  refine LL.val (R.pick rfl rfl rfl) rfl rfl rfl ?_
  refine LL.val (R.assign rfl rfl) rfl rfl rfl ?_
  refine LL.nilS ?_
  refine CC.ret ?_
  refine EE.ret _ rfl rfl ?_
  exact ⟨rfl, rfl⟩
theorem sover_any (h : RowL w g 36 (stL p many key tv over why true)) : Calls Tryz.prog 5 #[.pointer (some ⟨g, 0, none⟩)] w fun e w' => e = .returned (.tuple #[.bool over, .int .i64 why]) ∧ Below w.heap.size w w' := by
  have q := Below.refl w.heap.size w
  refine X.fn Tryz.func5 rfl (n := 14) rfl rfl ?_
  refine CC.seq ?_
  refine CC.region ?_
  refine LL.val (R.assign rfl rfl) rfl rfl rfl ?_
  refine LL.val (R.assign rfl rfl) rfl rfl rfl ?_
  refine LL.nilS ?_
  refine CC.seq ?_
  refine CC.seq ?_
  refine CC.region ?_
  refine LL.val (R.move rfl rfl) rfl rfl rfl ?_
  refine LL.call (R.call rfl rfl rfl) rfl rfl rfl (snone_any _ (by assumption)) ?_
  rintro e W' ⟨rfl, rfl⟩
  refine ⟨_, rfl, ?_⟩
  refine LL.nilS ?_
  refine CC.no rfl ?_
  refine CC.skip ?_
  refine EE.thenN ?_
  refine CC.seq ?_
  refine CC.quietB (by kernel_rfl) (by kernel_rfl) (fun W2 b1 z3 => ?_)
  replace h := h.up b1
  replace q := q.trans (b1.mono q.size)
  refine SS.val (R.move rfl rfl) rfl rfl ?_
  refine SS.val (R.nil rfl rfl) rfl rfl ?_
  refine SS.val (R.field rfl rfl (I.fld rfl)) rfl rfl ?_
  refine SS.val (R.load rfl rfl (I.ld1 rfl (RowL.cell h rfl))) rfl rfl ?_
  refine SS.val (R.move rfl rfl) rfl rfl ?_
  refine SS.val (R.nil rfl rfl) rfl rfl ?_
  refine SS.val (R.field rfl rfl (I.fld rfl)) rfl rfl ?_
  refine SS.val (R.load rfl rfl (I.ld1 rfl (RowL.cell h rfl))) rfl rfl ?_
  refine SS.val (R.assign rfl rfl) rfl rfl ?_
  refine SS.val (R.assign rfl rfl) rfl rfl ?_
  refine SS.nilQ ?_
  refine EE.thenN ?_
  refine CC.ret ?_
  refine EE.ret _ rfl rfl ?_
  exact ⟨rfl, q⟩
theorem scursor_any (h : RowL w g 36 (stL p many key tv over why true)) : Calls Tryz.prog 11 #[.pointer (some ⟨g, 0, none⟩)] w fun e w' => e = .returned (.int .u64 (key : Int)) ∧ Below w.heap.size w w' := by
  have q := Below.refl w.heap.size w
  refine X.fn Tryz.func11 rfl (n := 11) rfl rfl ?_
  refine CC.seq ?_
  refine CC.region ?_
  refine LL.val (R.assign rfl rfl) rfl rfl rfl ?_
  refine LL.nilS ?_
  refine CC.seq ?_
  refine CC.seq ?_
  refine CC.region ?_
  refine LL.val (R.move rfl rfl) rfl rfl rfl ?_
  refine LL.call (R.call rfl rfl rfl) rfl rfl rfl (snone_any _ (by assumption)) ?_
  rintro e W' ⟨rfl, rfl⟩
  refine ⟨_, rfl, ?_⟩
  refine LL.nilS ?_
  refine CC.no rfl ?_
  refine CC.skip ?_
  refine EE.thenN ?_
  refine CC.seq ?_
  refine CC.region ?_
  refine LL.val (R.move rfl rfl) rfl rfl rfl ?_
  refine LL.val (R.nil rfl rfl) rfl rfl rfl ?_
  refine LL.val (R.field rfl rfl (I.fld rfl)) rfl rfl rfl ?_
  refine LL.val (R.field rfl rfl (I.fld rfl)) rfl rfl rfl ?_
  refine LL.val (R.field rfl rfl (I.fld rfl)) rfl rfl rfl ?_
  refine LL.val (R.load rfl rfl (I.ld1 rfl (RowL.cell h rfl))) rfl rfl rfl ?_
  refine LL.val (R.assign rfl rfl) rfl rfl rfl ?_
  refine LL.nilS ?_
  refine CC.ret ?_
  refine EE.ret _ rfl rfl ?_
  exact ⟨rfl, q⟩
theorem scall_F (h : RowL w g 36 (stL p many key tv false why true)) : Calls Tryz.prog 4 #[.pointer (some ⟨g, 0, none⟩)] w fun e w' => e = .returned (.tuple #[caV 14 p many key, .bool true]) ∧ Below w.heap.size w w' := by
  have q := Below.refl w.heap.size w
  refine X.fn Tryz.func4 rfl (n := 18) rfl rfl ?_
  refine CC.seq ?_
  refine CC.region ?_
  have l1 := h.lt
  refine LL.alloc ([Value.int IntKind.i64 0, Value.string { data := { toList := [] } }, Value.string { data := { toList := [] } }, Value.int IntKind.i64 0, Value.int IntKind.i64 0, Value.int IntKind.u64 0, Value.slice none 0 0]) rfl rfl rfl rfl rfl ?_
  intro W3 g4 eg4 r5 z6 b2
  replace h := h.up b2
  replace q := q.trans (b2.mono q.size)
  refine LL.val (R.assign rfl rfl) rfl rfl rfl ?_
  refine LL.nilS ?_
  refine CC.seq ?_
  refine CC.seq ?_
  refine CC.region ?_
  refine LL.val (R.move rfl rfl) rfl rfl rfl ?_
  refine LL.call (R.call rfl rfl rfl) rfl rfl rfl (snone_any _ (by assumption)) ?_
  rintro e W' ⟨rfl, rfl⟩
  refine ⟨_, rfl, ?_⟩
  refine LL.val (R.move rfl rfl) rfl rfl rfl ?_
  refine LL.val (R.move rfl rfl) rfl rfl rfl ?_
  refine LL.val (R.nil rfl rfl) rfl rfl rfl ?_
  refine LL.val (R.field rfl rfl (I.fld rfl)) rfl rfl rfl ?_
  refine LL.val (R.load rfl rfl (I.ld1 rfl (RowL.cell h rfl))) rfl rfl rfl ?_
  refine LL.val (R.pick rfl rfl rfl) rfl rfl rfl ?_
  refine LL.nilS ?_
  refine CC.no rfl ?_
  refine CC.skip ?_
  refine EE.thenN ?_
  refine CC.seq ?_
  refine CC.region ?_
  refine LL.val (R.move rfl rfl) rfl rfl rfl ?_
  refine LL.val (R.nil rfl rfl) rfl rfl rfl ?_
  refine LL.val (R.field rfl rfl (I.fld rfl)) rfl rfl rfl ?_
  refine LL.val (R.field rfl rfl (I.fld rfl)) rfl rfl rfl ?_
  refine LL.val (R.load rfl rfl (I.ldNc (vs := [Value.int IntKind.i64 14, strV p, strV [], Value.int IntKind.i64 0, Value.int IntKind.i64 many, Value.int IntKind.u64 ↑key, Value.slice none 0 0]) (RowL.cells h rfl) (by rfl) (by rfl))) rfl rfl rfl ?_
  refine LL.storeN (vs := [Value.int IntKind.i64 14, strV p, strV [], Value.int IntKind.i64 0, Value.int IntKind.i64 many, Value.int IntKind.u64 ↑key, Value.slice none 0 0]) rfl rfl rfl rfl r5 (by exact Nat.le_of_ble_eq_true rfl) (ones_of rfl) rfl rfl ?_
  intro W8 r9 b7 z10
  have hlb7 := r5.lt
  replace r9 : RowL W8 _ 32 [Value.int IntKind.i64 14, strV p, strV [], Value.int IntKind.i64 0, Value.int IntKind.i64 many, Value.int IntKind.u64 ↑key, Value.slice none 0 0] := r9
  clear r5
  replace b2 := b2.grown b7 b2.size (by rintro k ⟨⟩; omega)
  replace h := h.gr b7 (by have := h.lt; omega)
  replace q := q.grown b7 q.size (by rintro k ⟨⟩; omega)
  have r5 := r9
  clear r9
  refine LL.val (R.assign rfl rfl) rfl rfl rfl ?_
  refine LL.nilS ?_
  refine CC.ret ?_
  refine EE.ret2 rfl ⟨_, rfl, lvNc (RowL.cells0 (by assumption)) (by rfl) (by rfl)⟩ rfl ?_
  exact ⟨rfl, q⟩
theorem snew_no (p : Bs) (many : Int) (h : ¬(1 ≤ many ∧ many ≤ 64)) : Calls Tryz.prog 17 #[strV p, .int .i64 many] w fun e w' => e = .returned (.tuple #[.pointer none, .int .i64 2]) ∧ Below w.heap.size w w' := by
  have q := Below.refl w.heap.size w
  refine X.fn Tryz.func17 rfl (n := 18) rfl rfl ?_
  refine CC.seq ?_
  refine CC.region ?_
  refine LL.val (R.assign rfl rfl) rfl rfl rfl ?_
  refine LL.val (R.assign rfl rfl) rfl rfl rfl ?_
  refine LL.nilS ?_
  refine CC.seq ?_
  refine CC.seq ?_
  refine CC.region ?_
  refine LL.val (R.move rfl rfl) rfl rfl rfl ?_
  refine LL.vsplit (fun h => R.ltT rfl rfl rfl h) (fun h => R.ltF rfl rfl rfl (Int.not_lt.1 h)) rfl rfl rfl (fun c1 => ?_) (fun c1 => ?_)
  refine LL.val (R.move rfl rfl) rfl rfl rfl ?_
  refine LL.skip rfl rfl ?_
  refine LL.skip rfl rfl ?_
  refine LL.val (R.pick rfl rfl rfl) rfl rfl rfl ?_
  refine LL.nilS ?_
  refine CC.yes rfl ?_
  refine CC.seq ?_
  refine CC.region ?_
  refine LL.val (R.assign rfl rfl) rfl rfl rfl ?_
  refine LL.val (R.assign rfl rfl) rfl rfl rfl ?_
  refine LL.nilS ?_
  refine CC.ret ?_
  refine EE.thenR ?_
  refine EE.ret _ rfl rfl ?_
  exact ⟨rfl, q⟩
  refine LL.val (R.move rfl rfl) rfl rfl rfl ?_
  refine LL.val (R.move rfl rfl) rfl rfl rfl ?_
  refine LL.val (R.gtT rfl rfl rfl (by omega)) rfl rfl rfl ?_
  refine LL.val (R.pick rfl rfl rfl) rfl rfl rfl ?_
  refine LL.nilS ?_
  refine CC.yes rfl ?_
  refine CC.seq ?_
  refine CC.region ?_
  refine LL.val (R.assign rfl rfl) rfl rfl rfl ?_
  refine LL.val (R.assign rfl rfl) rfl rfl rfl ?_
  refine LL.nilS ?_
  refine CC.ret ?_
  refine EE.thenR ?_
  refine EE.ret _ rfl rfl ?_
  exact ⟨rfl, q⟩
theorem snew_yes (p : Bs) (many : Int) (h : 1 ≤ many ∧ many ≤ 64) : Calls Tryz.prog 17 #[strV p, .int .i64 many] w fun e w' => ∃ g, e = .returned (.tuple #[.pointer (some ⟨g, 0, none⟩), .int .i64 0]) ∧ RowL w' g 36 (stL p many 0 (.slice none 0 0) false 0 true) ∧ w.heap.size ≤ g ∧ Below w.heap.size w w' := by
  have q := Below.refl w.heap.size w
  refine X.fn Tryz.func17 rfl (n := 18) rfl rfl ?_
  refine CC.seq ?_
  refine CC.region ?_
  refine LL.val (R.assign rfl rfl) rfl rfl rfl ?_
  refine LL.val (R.assign rfl rfl) rfl rfl rfl ?_
  refine LL.nilS ?_
  refine CC.seq ?_
  refine CC.seq ?_
  refine CC.region ?_
  refine LL.val (R.move rfl rfl) rfl rfl rfl ?_
  refine LL.val (R.ltF rfl rfl rfl (by omega)) rfl rfl rfl ?_
  refine LL.val (R.move rfl rfl) rfl rfl rfl ?_
  refine LL.val (R.move rfl rfl) rfl rfl rfl ?_
  refine LL.val (R.gtF rfl rfl rfl (by omega)) rfl rfl rfl ?_
  refine LL.val (R.pick rfl rfl rfl) rfl rfl rfl ?_
  refine LL.nilS ?_
  refine CC.no rfl ?_
  refine CC.skip ?_
  refine EE.thenN ?_
  refine CC.seq ?_
  refine CC.region ?_
  refine LL.val (R.move rfl rfl) rfl rfl rfl ?_
  refine LL.val (R.move rfl rfl) rfl rfl rfl ?_
  refine LL.val (R.buildV rfl rfl (v := .agg #[Value.int IntKind.i64 14, Value.string { data := List.toArray p }, Value.string { data := #[] }, Value.int IntKind.i64 0, Value.int IntKind.i64 many, Value.int IntKind.u64 0, Value.slice none 0 0]) (fun _ => by kernel_rfl)) rfl rfl rfl ?_
  refine LL.val (R.buildV rfl rfl (v := .agg #[Value.int IntKind.i64 14, Value.string { data := List.toArray p }, Value.string { data := #[] }, Value.int IntKind.i64 0, Value.int IntKind.i64 many, Value.int IntKind.u64 0, Value.slice none 0 0]) (fun _ => by kernel_rfl)) rfl rfl rfl ?_
  refine LL.val (R.buildV rfl rfl (v := .agg #[Value.int IntKind.i64 14, Value.string { data := List.toArray p }, Value.string { data := #[] }, Value.int IntKind.i64 0, Value.int IntKind.i64 many, Value.int IntKind.u64 0, Value.slice none 0 0, Value.slice none 0 0, Value.bool false, Value.int IntKind.i64 0, Value.bool true]) (fun _ => by kernel_rfl)) rfl rfl rfl ?_
  refine LL.box [Value.int IntKind.i64 14, Value.string { data := List.toArray p }, Value.string { data := #[] }, Value.int IntKind.i64 0, Value.int IntKind.i64 many, Value.int IntKind.u64 0, Value.slice none 0 0, Value.slice none 0 0, Value.bool false, Value.int IntKind.i64 0, Value.bool true] rfl rfl rfl rfl rfl ?_
  intro W2 g3 eg3 r4 z5 b1
  replace q := q.trans (b1.mono q.size)
  refine LL.val (R.assign rfl rfl) rfl rfl rfl ?_
  refine LL.val (R.assign rfl rfl) rfl rfl rfl ?_
  refine LL.nilS ?_
  refine CC.ret ?_
  refine EE.ret _ rfl rfl ?_
  exact ⟨_, rfl, by assumption, by omega, q⟩
end
end Go.Proofs.YtompfnnmiccipaaGreatDoor
/- stream: behind, tell, what is done with an answer (written by genst1.py). -/
namespace Go.Proofs.YtompfnnmiccipaaGreatDoor
set_option linter.unusedVariables false
set_option linter.unusedSimpArgs false
open Go.RowKit Go.Shelf
set_option maxRecDepth 100000
set_option maxHeartbeats 8000000
theorem behind_any (tv nv : Value) (ts us : List Nm) (w : World) (base : Nat) (o : OwnsT nmE 3 w base 56 tv ts) (hv : ReadsT nmE 3 w nv us) (h1 : ts.length ≤ 1000000) (h2 : us.length ≤ 1000000) (hb : base ≤ w.heap.size) : Calls Tryz.prog 19 #[tv, nv] w fun e w' => ∃ v', e = .returned v' ∧ OwnsT nmE 3 w' base 56 v' (ts ++ us) ∧ w.grownBy w' tv.ownBlock ∧ (v'.ownBlock = tv.ownBlock ∨ ∃ b, v'.ownBlock = some b ∧ w.heap.size ≤ b) := by
  obtain ⟨a, c, rfl, hc⟩ := (o.reads nmEnc).form rfl
  obtain ⟨a2, c2, rfl, hc2⟩ := hv.form rfl
  refine X.fn Tryz.func19 rfl (n := 8) rfl rfl ?_
  refine CC.seq ?_
  refine CC.region ?_
  refine LL.val (R.assign rfl rfl) rfl rfl rfl ?_
  refine LL.nilS ?_
  refine CC.seq ?_
  refine CC.region ?_
  refine LL.val (R.move rfl rfl) rfl rfl rfl ?_
  refine LL.val (R.move rfl rfl) rfl rfl rfl ?_
  (refine LL.appendT2 rfl rfl nmEnc ElNm o (us := us) hv (by simp only [maxLen]; omega) (by omega) hb rfl rfl ?_; intro v' Wz oz gra hva; obtain ⟨az, cz, rfl, hcz⟩ := (oz.reads nmEnc).form rfl)
  refine LL.val (R.assign rfl rfl) rfl rfl rfl ?_
  refine LL.nilS ?_
  refine CC.ret ?_
  refine EE.ret _ rfl rfl ?_
  exact ⟨_, rfl, oz, gra, hva⟩
section
variable (g gb : Nat) {er : Int} {p : Bs} {many : Int} {key : Nat} {tv : Value} {over : Bool} {why : Int} {w : World} {ino kd lk sz : Int} {ba : Option Addr} {bn bc : Nat} {tx : Bs} {na : Option Addr} {nn nc : Nat} {k2 : Nat}
theorem tell_any (nv : Value) (ts us : List Nm) (base : Nat) (h : RowL w g 36 (stL p many key tv over why true)) (o : OwnsT nmE 3 w base 56 tv ts) (hne : ∀ b, tv.ownBlock = some b → b ≠ g) (hv : ReadsT nmE 3 w nv us) (h1 : ts.length ≤ 1000000) (h2 : us.length ≤ 1000000) (hb : base ≤ w.heap.size) : Calls Tryz.prog 29 #[.pointer (some ⟨g, 0, none⟩), nv] w fun e w' => e = .returned (.tuple #[]) ∧ ∃ v', RowL w' g 36 (stL p many key v' over why true) ∧ OwnsT nmE 3 w' base 56 v' (ts ++ us) ∧ (v'.ownBlock = tv.ownBlock ∨ ∃ b, v'.ownBlock = some b ∧ w.heap.size ≤ b) ∧ Kept (fun j => j < w.heap.size ∧ j ≠ g ∧ tv.ownBlock ≠ some j) w w' := by
  obtain ⟨a, c, rfl, hc⟩ := (o.reads nmEnc).form rfl
  obtain ⟨a2, c2, rfl, hc2⟩ := hv.form rfl
  have hg := h.lt
  have hkk := Kept.refl (fun j => j < w.heap.size ∧ j ≠ g ∧ (Value.slice a ts.length c).ownBlock ≠ some j) w
  have hcon := behind_any _ _ ts us w base o hv h1 h2 hb
  clear o hv
  refine X.fn Tryz.func29 rfl (n := 13) rfl rfl ?_
  refine CC.region ?_
  refine LL.val (R.move rfl rfl) rfl rfl rfl ?_
  refine LL.val (R.move rfl rfl) rfl rfl rfl ?_
  refine LL.val (R.nil rfl rfl) rfl rfl rfl ?_
  refine LL.val (R.field rfl rfl (I.fld rfl)) rfl rfl rfl ?_
  refine LL.val (R.load rfl rfl (I.ld1 rfl (RowL.cell h rfl))) rfl rfl rfl ?_
  refine LL.val (R.move rfl rfl) rfl rfl rfl ?_
  (refine LL.call (R.call rfl rfl rfl) rfl rfl rfl hcon ?_; rintro e Wz ⟨v', rfl, oz, gra, hva⟩; refine ⟨_, rfl, ?_⟩; obtain ⟨az, cz, rfl, hcz⟩ := (oz.reads nmEnc).form rfl; replace h := h.grO gra (fun e => hne g e rfl); replace hkk := hkk.trans (grown_kept gra (fun j h => h.1) (fun j h e => h.2.2 e)); have hgz := gra.size; have hng : ∀ b, (Value.slice az (ts ++ us).length cz).ownBlock = some b → b ≠ g := fun b hb e => (by subst e; rcases hva with e2 | ⟨b2, e2, hb2⟩; exact hne b (e2.symm.trans hb) rfl; rw [hb] at e2; cases e2; omega); clear gra)
  refine LL.val (R.nil rfl rfl) rfl rfl rfl ?_
  refine LL.val (R.field rfl rfl (I.fld rfl)) rfl rfl rfl ?_
  refine LL.store rfl rfl rfl rfl h (by exact Nat.le_of_ble_eq_true rfl) rfl rfl rfl rfl ?_
  intro W2 r3 b1 z4
  have hlb1 := h.lt
  replace r3 : RowL W2 _ 36 [Value.int IntKind.i64 14, strV p, strV [], Value.int IntKind.i64 0, Value.int IntKind.i64 many, Value.int IntKind.u64 ↑key, Value.slice none 0 0, Value.slice az (ts ++ us).length cz, Value.bool over, Value.int IntKind.i64 why, Value.bool true] := r3
  clear h
  replace hkk := hkk.trans (grown_kept b1 (fun j h => by have := h.1; have := hkk.size; omega) (fun j h e => by cases e; have h2 := h.1; have h3 := h.2; omega))
  have h := r3
  clear r3
  refine LL.nil ?_
  refine EE.end _ rfl rfl ?_
  exact ⟨rfl, _, h, oz.grown b1 (fun e => hng _ e rfl), hva, hkk⟩
theorem d1_go (h : RowL w g 36 (stL p many key tv false why true)) (hb : RowL w gb 29 [.pointer (some ⟨g, 0, none⟩)]) : Calls Tryz.prog 26 #[.agg #[.int .i64 0, .int .i64 ino, .int .i64 kd, .int .i64 lk, .int .i64 sz, .slice ba bn bc, strV tx, .slice na nn nc, .int .u64 (k2 : Int)], .pointer (some ⟨gb, 0, none⟩)] w fun e w' => e = .returned (.bool false) ∧ Below w.heap.size w w' := by
  have q := Below.refl w.heap.size w
  refine X.fn Tryz.func26 rfl (n := 19) rfl rfl ?_
  refine CC.seq ?_
  refine CC.region ?_
  have l1 := h.lt
  have l2 := hb.lt
  refine LL.box [Value.int IntKind.i64 0, Value.int IntKind.i64 ino, Value.int IntKind.i64 kd, Value.int IntKind.i64 lk, Value.int IntKind.i64 sz, Value.slice ba bn bc, strV tx, Value.slice na nn nc, Value.int IntKind.u64 ↑k2] rfl rfl rfl rfl rfl ?_
  intro W4 g5 eg5 r6 z7 b3
  replace h := h.up b3
  replace hb := hb.up b3
  replace q := q.trans (b3.mono q.size)
  refine LL.val (R.assign rfl rfl) rfl rfl rfl ?_
  refine LL.nilS ?_
  refine CC.seq ?_
  refine CC.seq ?_
  refine CC.region ?_
  refine LL.val (R.field rfl rfl (I.fld rfl)) rfl rfl rfl ?_
  refine LL.val (R.load rfl rfl (I.ld1 rfl (RowL.cell r6 rfl))) rfl rfl rfl ?_
  refine LL.val (R.neF rfl rfl rfl (by omega)) rfl rfl rfl ?_
  refine LL.nilS ?_
  refine CC.no rfl ?_
  refine CC.skip ?_
  refine EE.thenN ?_
  refine CC.seq ?_
  refine CC.region ?_
  refine LL.val (R.load rfl rfl (I.ld1 rfl (RowL.cell hb rfl))) rfl rfl rfl ?_
  refine LL.val (R.nil rfl rfl) rfl rfl rfl ?_
  refine LL.val (R.field rfl rfl (I.fld rfl)) rfl rfl rfl ?_
  refine LL.val (R.load rfl rfl (I.ld1 rfl (RowL.cell h rfl))) rfl rfl rfl ?_
  refine LL.val (R.assign rfl rfl) rfl rfl rfl ?_
  refine LL.nilS ?_
  refine CC.ret ?_
  refine EE.ret _ rfl rfl ?_
  exact ⟨rfl, q⟩
theorem d1_end (he : er ≠ 0) (a : Option Addr) (n c : Nat) (h : RowL w g 36 (stL p many key (.slice a n c) false why true)) (hb : RowL w gb 29 [.pointer (some ⟨g, 0, none⟩)]) (hne : gb ≠ g) : Calls Tryz.prog 26 #[.agg #[.int .i64 er, .int .i64 ino, .int .i64 kd, .int .i64 lk, .int .i64 sz, .slice ba bn bc, strV tx, .slice na nn nc, .int .u64 (k2 : Int)], .pointer (some ⟨gb, 0, none⟩)] w fun e w' => e = .returned (.bool true) ∧ RowL w' g 36 (stL p many key (.slice a n c) true er true) ∧ Kept (fun j => j < w.heap.size ∧ j ≠ g) w w' := by
  have gw := Gw.refl g w
  have hg := h.lt
  refine X.fn Tryz.func26 rfl (n := 19) rfl rfl ?_
  refine CC.seq ?_
  refine CC.region ?_
  have l1 := h.lt
  have l2 := hb.lt
  refine LL.box [Value.int IntKind.i64 er, Value.int IntKind.i64 ino, Value.int IntKind.i64 kd, Value.int IntKind.i64 lk, Value.int IntKind.i64 sz, Value.slice ba bn bc, strV tx, Value.slice na nn nc, Value.int IntKind.u64 ↑k2] rfl rfl rfl rfl rfl ?_
  intro W4 g5 eg5 r6 z7 b3
  replace h := h.up b3
  replace hb := hb.up b3
  replace gw := gw.up b3
  refine LL.val (R.assign rfl rfl) rfl rfl rfl ?_
  refine LL.nilS ?_
  refine CC.seq ?_
  refine CC.seq ?_
  refine CC.region ?_
  refine LL.val (R.field rfl rfl (I.fld rfl)) rfl rfl rfl ?_
  refine LL.val (R.load rfl rfl (I.ld1 rfl (RowL.cell r6 rfl))) rfl rfl rfl ?_
  refine LL.val (R.neT rfl rfl rfl (by omega)) rfl rfl rfl ?_
  refine LL.nilS ?_
  refine CC.yes rfl ?_
  refine CC.freeZ (fun W_ j => j < W_.heap.size ∧ (j ≠ g)) (by kernel_rfl) (by kernel_rfl) (fun W9 b8 z10 => ?_)
  replace r6 := r6.up b8
  replace b3 := b3.trans (b8.mono b3.size)
  replace h := h.up b8
  replace hb := hb.up b8
  replace gw := gw.up b8
  have hok : Kept (fun j => j < W9.heap.size ∧ (j ≠ g)) W9 W9 := Kept.refl _ _
  have fzr6 := fzRow (K := fun j => j < W9.heap.size ∧ (j ≠ g)) r6 ⟨r6.lt, (by first | trivial | omega)⟩
  have fzhb := fzRow (K := fun j => j < W9.heap.size ∧ (j ≠ g)) hb ⟨hb.lt, (by first | trivial | omega)⟩
  refine AA.pure 0 rfl hok (by kernel_rfl) (fun w' b' => R.load rfl rfl (I.ld1 rfl (RowL.cell (fzhb w' b') rfl))) rfl rfl ?_
  refine AA.pure 1 rfl hok (by kernel_rfl) (fun w' b' => R.load rfl rfl (I.ld1 rfl (RowL.cell (fzhb w' b') rfl))) rfl rfl ?_
  refine AA.pure 2 rfl hok (by kernel_rfl) (fun w' b' => R.field rfl rfl (I.fld rfl)) rfl rfl ?_
  refine AA.pure 3 rfl hok (by kernel_rfl) (fun w' b' => R.load rfl rfl (I.ld1 rfl (RowL.cell (fzr6 w' b') rfl))) rfl rfl ?_
  refine AA.pure 4 rfl hok (by kernel_rfl) (fun w' b' => R.nil rfl rfl) rfl rfl ?_
  refine AA.pure 5 rfl hok (by kernel_rfl) (fun w' b' => R.field rfl rfl (I.fld rfl)) rfl rfl ?_
  refine AA.one 6 (by kernel_rfl) ?_
  refine ZR.store rfl rfl rfl rfl rfl h (by exact Nat.le_of_ble_eq_true rfl) rfl rfl rfl rfl ?_
  intro W12 r13 b11 z14
  have hlb11 := h.lt
  replace r13 : RowL W12 _ 36 [Value.int IntKind.i64 14, strV p, strV [], Value.int IntKind.i64 0, Value.int IntKind.i64 many, Value.int IntKind.u64 ↑key, Value.slice none 0 0, Value.slice a n c, Value.bool true, Value.int IntKind.i64 why, Value.bool true] := r13
  clear h
  replace r6 := r6.gr b11 (by have := r6.lt; omega)
  replace hb := hb.gr b11 (by have := hb.lt; omega)
  replace gw := gw.gr b11 (by omega)
  replace hok := hok.trans (grown_kept b11 (fun j h => by have := h.1; have := hok.size; omega) (fun j h e => by cases e; have h2 := h.1; have h3 := h.2; omega))
  have h := r13
  clear r13
  refine ⟨hok, ?_⟩
  refine AA.pure 7 rfl hok (by kernel_rfl) (fun w' b' => R.nil rfl rfl) rfl rfl ?_
  refine AA.pure 8 rfl hok (by kernel_rfl) (fun w' b' => R.field rfl rfl (I.fld rfl)) rfl rfl ?_
  refine AA.one 9 (by kernel_rfl) ?_
  refine ZR.store rfl rfl rfl rfl rfl h (by exact Nat.le_of_ble_eq_true rfl) rfl rfl rfl rfl ?_
  intro W16 r17 b15 z18
  have hlb15 := h.lt
  replace r17 : RowL W16 _ 36 [Value.int IntKind.i64 14, strV p, strV [], Value.int IntKind.i64 0, Value.int IntKind.i64 many, Value.int IntKind.u64 ↑key, Value.slice none 0 0, Value.slice a n c, Value.bool true, Value.int IntKind.i64 er, Value.bool true] := r17
  clear h
  replace r6 := r6.gr b15 (by have := r6.lt; omega)
  replace hb := hb.gr b15 (by have := hb.lt; omega)
  replace gw := gw.gr b15 (by omega)
  replace hok := hok.trans (grown_kept b15 (fun j h => by have := h.1; have := hok.size; omega) (fun j h e => by cases e; have h2 := h.1; have h3 := h.2; omega))
  have h := r17
  clear r17
  refine ⟨hok, ?_⟩
  refine AA.done rfl ?_
  clear fzr6 fzhb hok
  refine EE.thenN ?_
  refine CC.seq ?_
  refine CC.region ?_
  refine LL.val (R.load rfl rfl (I.ld1 rfl (RowL.cell hb rfl))) rfl rfl rfl ?_
  refine LL.val (R.nil rfl rfl) rfl rfl rfl ?_
  refine LL.val (R.field rfl rfl (I.fld rfl)) rfl rfl rfl ?_
  refine LL.val (R.load rfl rfl (I.ld1 rfl (RowL.cell h rfl))) rfl rfl rfl ?_
  refine LL.val (R.assign rfl rfl) rfl rfl rfl ?_
  refine LL.nilS ?_
  refine CC.ret ?_
  refine EE.ret _ rfl rfl ?_
  exact ⟨rfl, h, gw⟩
theorem d2_any (a : Option Addr) (n c : Nat) (h : RowL w g 36 (stL p many key (.slice a n c) over why true)) (hb : RowL w gb 29 [.pointer (some ⟨g, 0, none⟩)]) (hne : gb ≠ g) (b : Bool) (hbb : b = true ↔ nn = 0) : Calls Tryz.prog 27 #[.agg #[.int .i64 er, .int .i64 ino, .int .i64 kd, .int .i64 lk, .int .i64 sz, .slice ba bn bc, strV tx, .slice na nn nc, .int .u64 (k2 : Int)], .pointer (some ⟨gb, 0, none⟩)] w fun e w' => e = .returned (.bool b) ∧ RowL w' g 36 (stL p many key (.slice a n c) b why true) ∧ Kept (fun j => j < w.heap.size ∧ j ≠ g) w w' := by
  have gw := Gw.refl g w
  have hg := h.lt
  cases b with
  | true =>
    have hn := hbb.1 rfl
    refine X.fn Tryz.func27 rfl (n := 15) rfl rfl ?_
    refine CC.seq ?_
    refine CC.region ?_
    have l1 := h.lt
    have l2 := hb.lt
    refine LL.box [Value.int IntKind.i64 er, Value.int IntKind.i64 ino, Value.int IntKind.i64 kd, Value.int IntKind.i64 lk, Value.int IntKind.i64 sz, Value.slice ba bn bc, strV tx, Value.slice na nn nc, Value.int IntKind.u64 ↑k2] rfl rfl rfl rfl rfl ?_
    intro W4 g5 eg5 r6 z7 b3
    replace h := h.up b3
    replace hb := hb.up b3
    replace gw := gw.up b3
    refine LL.val (R.assign rfl rfl) rfl rfl rfl ?_
    refine LL.nilS ?_
    refine CC.seq ?_
    refine CC.region ?_
    refine LL.val (R.load rfl rfl (I.ld1 rfl (RowL.cell hb rfl))) rfl rfl rfl ?_
    refine LL.val (R.field rfl rfl (I.fld rfl)) rfl rfl rfl ?_
    refine LL.val (R.load rfl rfl (I.ld1 rfl (RowL.cell r6 rfl))) rfl rfl rfl ?_
    refine LL.val (R.len rfl rfl rfl rfl) rfl rfl rfl ?_
    refine LL.val (R.eqT rfl rfl rfl (by omega)) rfl rfl rfl ?_
    refine LL.val (R.nil rfl rfl) rfl rfl rfl ?_
    refine LL.val (R.field rfl rfl (I.fld rfl)) rfl rfl rfl ?_
    refine LL.store rfl rfl rfl rfl h (by exact Nat.le_of_ble_eq_true rfl) rfl rfl rfl rfl ?_
    intro W9 r10 b8 z11
    have hlb8 := h.lt
    replace r10 : RowL W9 _ 36 [Value.int IntKind.i64 14, strV p, strV [], Value.int IntKind.i64 0, Value.int IntKind.i64 many, Value.int IntKind.u64 ↑key, Value.slice none 0 0, Value.slice a n c, Value.bool true, Value.int IntKind.i64 why, Value.bool true] := r10
    clear h
    replace r6 := r6.gr b8 (by have := r6.lt; omega)
    replace hb := hb.gr b8 (by have := hb.lt; omega)
    replace gw := gw.gr b8 (by omega)
    have h := r10
    clear r10
    refine LL.nilS ?_
    refine CC.seq ?_
    refine CC.region ?_
    refine LL.val (R.load rfl rfl (I.ld1 rfl (RowL.cell hb rfl))) rfl rfl rfl ?_
    refine LL.val (R.nil rfl rfl) rfl rfl rfl ?_
    refine LL.val (R.field rfl rfl (I.fld rfl)) rfl rfl rfl ?_
    refine LL.val (R.load rfl rfl (I.ld1 rfl (RowL.cell h rfl))) rfl rfl rfl ?_
    refine LL.val (R.assign rfl rfl) rfl rfl rfl ?_
    refine LL.nilS ?_
    refine CC.ret ?_
    refine EE.ret _ rfl rfl ?_
    exact ⟨rfl, h, gw⟩
  | false =>
    have hn : nn ≠ 0 := fun e => (by have := hbb.2 e; cases this)
    refine X.fn Tryz.func27 rfl (n := 15) rfl rfl ?_
    refine CC.seq ?_
    refine CC.region ?_
    have la1 := h.lt
    have la2 := hb.lt
    refine LL.box [Value.int IntKind.i64 er, Value.int IntKind.i64 ino, Value.int IntKind.i64 kd, Value.int IntKind.i64 lk, Value.int IntKind.i64 sz, Value.slice ba bn bc, strV tx, Value.slice na nn nc, Value.int IntKind.u64 ↑k2] rfl rfl rfl rfl rfl ?_
    intro Wa4 ga5 ega5 ra6 za7 ba3
    replace h := h.up ba3
    replace hb := hb.up ba3
    replace gw := gw.up ba3
    refine LL.val (R.assign rfl rfl) rfl rfl rfl ?_
    refine LL.nilS ?_
    refine CC.seq ?_
    refine CC.region ?_
    refine LL.val (R.load rfl rfl (I.ld1 rfl (RowL.cell hb rfl))) rfl rfl rfl ?_
    refine LL.val (R.field rfl rfl (I.fld rfl)) rfl rfl rfl ?_
    refine LL.val (R.load rfl rfl (I.ld1 rfl (RowL.cell ra6 rfl))) rfl rfl rfl ?_
    refine LL.val (R.len rfl rfl rfl rfl) rfl rfl rfl ?_
    refine LL.val (R.eqF rfl rfl rfl (by omega)) rfl rfl rfl ?_
    refine LL.val (R.nil rfl rfl) rfl rfl rfl ?_
    refine LL.val (R.field rfl rfl (I.fld rfl)) rfl rfl rfl ?_
    refine LL.store rfl rfl rfl rfl h (by exact Nat.le_of_ble_eq_true rfl) rfl rfl rfl rfl ?_
    intro Wa9 ra10 ba8 za11
    have hlba8 := h.lt
    replace ra10 : RowL Wa9 _ 36 [Value.int IntKind.i64 14, strV p, strV [], Value.int IntKind.i64 0, Value.int IntKind.i64 many, Value.int IntKind.u64 ↑key, Value.slice none 0 0, Value.slice a n c, Value.bool false, Value.int IntKind.i64 why, Value.bool true] := ra10
    clear h
    replace ra6 := ra6.gr ba8 (by have := ra6.lt; omega)
    replace hb := hb.gr ba8 (by have := hb.lt; omega)
    replace gw := gw.gr ba8 (by omega)
    have h := ra10
    clear ra10
    refine LL.nilS ?_
    refine CC.seq ?_
    refine CC.region ?_
    refine LL.val (R.load rfl rfl (I.ld1 rfl (RowL.cell hb rfl))) rfl rfl rfl ?_
    refine LL.val (R.nil rfl rfl) rfl rfl rfl ?_
    refine LL.val (R.field rfl rfl (I.fld rfl)) rfl rfl rfl ?_
    refine LL.val (R.load rfl rfl (I.ld1 rfl (RowL.cell h rfl))) rfl rfl rfl ?_
    refine LL.val (R.assign rfl rfl) rfl rfl rfl ?_
    refine LL.nilS ?_
    refine CC.ret ?_
    refine EE.ret _ rfl rfl ?_
    exact ⟨rfl, h, gw⟩
theorem d3_any (a : Option Addr) (n c : Nat) (ts us : List Nm) (base : Nat) (h : RowL w g 36 (stL p many key (.slice a n c) over why true)) (hb : RowL w gb 29 [.pointer (some ⟨g, 0, none⟩)]) (hne : gb ≠ g) (o : OwnsT nmE 3 w base 56 (.slice a n c) ts) (hno : ∀ b, (Value.slice a n c).ownBlock = some b → b ≠ g ∧ b ≠ gb) (hv : ReadsT nmE 3 w (.slice na nn nc) us) (h1 : ts.length ≤ 1000000) (h2 : us.length ≤ 1000000) (hbs : base ≤ w.heap.size) : Calls Tryz.prog 28 #[.agg #[.int .i64 er, .int .i64 ino, .int .i64 kd, .int .i64 lk, .int .i64 sz, .slice ba bn bc, strV tx, .slice na nn nc, .int .u64 (k2 : Int)], .pointer (some ⟨gb, 0, none⟩)] w fun e w' => e = .returned (.bool true) ∧ ∃ a' n' c', RowL w' g 36 (stL p many k2 (.slice a' n' c') over why true) ∧ OwnsT nmE 3 w' base 56 (.slice a' n' c') (ts ++ us) ∧ ((Value.slice a' n' c').ownBlock = (Value.slice a n c).ownBlock ∨ ∃ b, (Value.slice a' n' c').ownBlock = some b ∧ w.heap.size ≤ b) ∧ Kept (fun j => j < w.heap.size ∧ j ≠ g ∧ (Value.slice a n c).ownBlock ≠ some j) w w' := by
  have hg := h.lt
  have hgb := hb.lt
  have hkk := Kept.refl (fun j => j < w.heap.size ∧ j ≠ g ∧ (Value.slice a n c).ownBlock ≠ some j) w
  have hol : ∀ b, (Value.slice a n c).ownBlock = some b → b < w.heap.size := fun b hb => by
    rcases o.above with h0 | ⟨b', h0, h1, h2⟩
    · rw [h0] at hb; cases hb
    · rw [h0] at hb; cases hb; exact h2
  have hng : ∀ b, (Value.slice a n c).ownBlock = some b → b ≠ g := fun b hb => (hno b hb).1
  refine X.fn Tryz.func28 rfl (n := 15) rfl rfl ?_
  refine CC.seq ?_
  refine CC.region ?_
  have l1 := h.lt
  have l2 := hb.lt
  refine LL.box [Value.int IntKind.i64 er, Value.int IntKind.i64 ino, Value.int IntKind.i64 kd, Value.int IntKind.i64 lk, Value.int IntKind.i64 sz, Value.slice ba bn bc, strV tx, Value.slice na nn nc, Value.int IntKind.u64 ↑k2] rfl rfl rfl rfl rfl ?_
  intro W4 g5 eg5 r6 z7 b3
  replace h := h.up b3
  replace hb := hb.up b3
  replace o := o.up b3
  replace hv := hv.up b3
  replace hkk := hkk.trans (bkept b3 (fun j h => by have := h.1; have := hkk.size; omega))
  have y8 := hkk.size
  refine LL.val (R.assign rfl rfl) rfl rfl rfl ?_
  refine LL.nilS ?_
  refine CC.seq ?_
  refine CC.region ?_
  refine LL.val (R.load rfl rfl (I.ld1 rfl (RowL.cell hb rfl))) rfl rfl rfl ?_
  refine LL.val (R.field rfl rfl (I.fld rfl)) rfl rfl rfl ?_
  refine LL.val (R.load rfl rfl (I.ld1 rfl (RowL.cell r6 rfl))) rfl rfl rfl ?_
  (refine LL.call (R.call rfl rfl rfl) rfl rfl rfl (tell_any g _ ts us base h o hng (by assumption) h1 h2 (by omega)) ?_; rintro e W5 ⟨rfl, v', hr, o2, hva, t5⟩; refine ⟨_, rfl, ?_⟩; clear h o hv; have h := hr; clear hr; replace hb := hb.kept t5 ⟨hb.lt, hne, fun e => (hno _ e).2 rfl⟩; replace r6 := r6.kept t5 ⟨r6.lt, by omega, fun e => by have := hol _ e; omega⟩; have t5z := t5.size; replace hkk := hkk.trans (t5.less fun j h => ⟨by have := h.1; omega, h.2.1, h.2.2⟩); obtain ⟨a2, c2, rfl, _⟩ := (o2.reads nmEnc).form rfl; have hng2 : ∀ b, (Value.slice a2 (ts ++ us).length c2).ownBlock = some b → b ≠ g := (fun b hx e => (by rcases hva with e2 | ⟨b2, e2, hb2⟩; exact hng b (e2.symm.trans hx) e; rw [hx] at e2; cases e2; omega)); clear t5)
  refine LL.nilS ?_
  refine CC.seq ?_
  refine CC.region ?_
  refine LL.val (R.load rfl rfl (I.ld1 rfl (RowL.cell hb rfl))) rfl rfl rfl ?_
  refine LL.val (R.field rfl rfl (I.fld rfl)) rfl rfl rfl ?_
  refine LL.val (R.load rfl rfl (I.ld1 rfl (RowL.cell r6 rfl))) rfl rfl rfl ?_
  refine LL.val (R.nil rfl rfl) rfl rfl rfl ?_
  refine LL.val (R.field rfl rfl (I.fld rfl)) rfl rfl rfl ?_
  refine LL.val (R.field rfl rfl (I.fld rfl)) rfl rfl rfl ?_
  refine LL.val (R.field rfl rfl (I.fld rfl)) rfl rfl rfl ?_
  refine LL.store rfl rfl rfl rfl h (by exact Nat.le_of_ble_eq_true rfl) rfl rfl rfl rfl ?_
  intro W10 r11 b9 z12
  have hlb9 := h.lt
  replace r11 : RowL W10 _ 36 [Value.int IntKind.i64 14, strV p, strV [], Value.int IntKind.i64 0, Value.int IntKind.i64 many, Value.int IntKind.u64 ↑k2, Value.slice none 0 0, Value.slice a2 (ts ++ us).length c2, Value.bool over, Value.int IntKind.i64 why, Value.bool true] := r11
  clear h
  replace hb := hb.gr b9 (by have := hb.lt; omega)
  replace r6 := r6.gr b9 (by have := r6.lt; omega)
  replace hkk := hkk.trans (grown_kept b9 (fun j h => by have := h.1; have := hkk.size; omega) (fun j h e => by cases e; have h2 := h.1; have h3 := h.2; omega))
  have h := r11
  clear r11
  refine LL.nilS ?_
  refine CC.seq ?_
  refine CC.region ?_
  refine LL.val (R.assign rfl rfl) rfl rfl rfl ?_
  refine LL.nilS ?_
  refine CC.ret ?_
  refine EE.ret _ rfl rfl ?_
  exact ⟨rfl, _, _, _, h, o2.grown b9 (fun e => hng2 _ e rfl), (by rcases hva with e | ⟨b, e, hb⟩; exact .inl e; exact .inr ⟨b, e, by omega⟩), hkk⟩
end
end Go.Proofs.YtompfnnmiccipaaGreatDoor
/- stream: doing, Take (written by genst2.py). -/
namespace Go.Proofs.YtompfnnmiccipaaGreatDoor
set_option linter.unusedVariables false
set_option linter.unusedSimpArgs false
open Go.RowKit Go.Shelf
set_option maxRecDepth 100000
set_option maxHeartbeats 8000000
theorem own_kept {α : Type} {enc : α → List Value} {k base e : Nat} {K : Nat → Prop} {w w' : World} {v : Value} {ts : List α} (h : OwnsT enc k w base e v ts) (hk : Kept K w w') (hK : ∀ b, v.ownBlock = some b → K b) : OwnsT enc k w' base e v ts :=
  h.same hk.size fun g cs hg hx => (hk.block g (hK g hg)).trans hx
theorem reads_kept {α : Type} {enc : α → List Value} {k : Nat} {K : Nat → Prop} {w w' : World} {v : Value} {ts : List α} (h : ReadsT enc k w v ts) (hk : Kept K w w') (hK : ∀ (x : Addr) (n c : Nat), v = .slice (some x) n c → 0 < n → x.block < w.heap.size → K x.block) : ReadsT enc k w' v ts := by
  obtain ⟨a, cap, e, hc, h'⟩ := h
  refine ⟨a, cap, e, hc, fun hne => ?_⟩
  obtain ⟨b, off, ha, hlt, hcell⟩ := h' hne
  have hb := hK ⟨b, off, none⟩ ts.length cap (by rw [e, ha]) (List.length_pos_iff.2 hne) hlt
  exact ⟨b, off, ha, Nat.lt_of_lt_of_le hlt hk.size, fun j hj => (World.cell?_of_block (hk.block b hb)).trans (hcell j hj)⟩
theorem doing_any (g : Nat) (w : World) : Calls Tryz.prog 18 #[.pointer (some ⟨g, 0, none⟩)] w fun e w' => ∃ gb gd, e = .returned (.slice (some ⟨gd, 0, none⟩) 3 3) ∧ RowL w' gb 29 [.pointer (some ⟨g, 0, none⟩)] ∧ RowL w' gd 51 [.func (.func 26) #[] #[.pointer (some ⟨gb, 0, none⟩)], .func (.func 27) #[] #[.pointer (some ⟨gb, 0, none⟩)], .func (.func 28) #[] #[.pointer (some ⟨gb, 0, none⟩)]] ∧ w.heap.size ≤ gb ∧ w.heap.size ≤ gd ∧ Below w.heap.size w w' := by
  have q := Below.refl w.heap.size w
  refine X.fn Tryz.func18 rfl (n := 7) rfl rfl ?_
  refine CC.seq ?_
  refine CC.region ?_
  refine LL.box [Value.pointer (some { block := g, off := 0 })] rfl rfl rfl rfl rfl ?_
  intro W2 g3 eg3 r4 z5 b1
  replace q := q.trans (b1.mono q.size)
  refine LL.val (R.assign rfl rfl) rfl rfl rfl ?_
  refine LL.nilS ?_
  refine CC.seq ?_
  refine CC.region ?_
  refine LL.val (R.func rfl rfl rfl) rfl rfl rfl ?_
  refine LL.val (R.func rfl rfl rfl) rfl rfl rfl ?_
  refine LL.val (R.func rfl rfl rfl) rfl rfl rfl ?_
  have l6 := r4.lt
  refine LL.lit (e := 51) [Value.func (Fn.func 26) #[] #[Value.pointer (some { block := g3, off := 0 })], Value.func (Fn.func 27) #[] #[Value.pointer (some { block := g3, off := 0 })], Value.func (Fn.func 28) #[] #[Value.pointer (some { block := g3, off := 0 })]] 3 rfl rfl (fun _ => by kernel_rfl) rfl rfl ?_
  intro W8 g9 eg9 r10 z11 b7
  replace r4 := r4.up b7
  replace b1 := b1.trans (b7.mono b1.size)
  replace q := q.trans (b7.mono q.size)
  refine LL.val (R.assign rfl rfl) rfl rfl rfl ?_
  refine LL.nilS ?_
  refine CC.ret ?_
  refine EE.ret _ rfl rfl ?_
  exact ⟨_, _, rfl, by assumption, by assumption, by omega, by omega, q⟩
section
variable (g : Nat) {er : Int} {p : Bs} {many : Int} {key : Nat} {tv : Value} {over : Bool} {why : Int} {w : World} {ino kd lk sz : Int} {ba : Option Addr} {bn bc : Nat} {tx : Bs} {na : Option Addr} {nn nc : Nat} {k2 : Nat}
theorem take_err (he : er ≠ 0) (a : Option Addr) (n c : Nat) (h : RowL w g 36 (stL p many key (.slice a n c) false why true)) : Calls Tryz.prog 9 #[.pointer (some ⟨g, 0, none⟩), .agg #[.int .i64 er, .int .i64 ino, .int .i64 kd, .int .i64 lk, .int .i64 sz, .slice ba bn bc, strV tx, .slice na nn nc, .int .u64 (k2 : Int)]] w fun e w' => e = .returned (.int .i64 0) ∧ RowL w' g 36 (stL p many key (.slice a n c) true er true) ∧ Kept (fun j => j < w.heap.size ∧ j ≠ g) w w' := by
  have gw := Gw.refl g w
  have hg := h.lt
  refine X.fn Tryz.func9 rfl (n := 26) rfl rfl ?_
  refine CC.seq ?_
  refine CC.region ?_
  have l1 := h.lt
  refine LL.box [Value.int IntKind.i64 er, Value.int IntKind.i64 ino, Value.int IntKind.i64 kd, Value.int IntKind.i64 lk, Value.int IntKind.i64 sz, Value.slice ba bn bc, strV tx, Value.slice na nn nc, Value.int IntKind.u64 ↑k2] rfl rfl rfl rfl rfl ?_
  intro W3 g4 eg4 r5 z6 b2
  replace h := h.up b2
  replace gw := gw.up b2
  refine LL.val (R.assign rfl rfl) rfl rfl rfl ?_
  refine LL.nilS ?_
  refine CC.fwd (l := 0) (α := Unit) (fun _ => []) (fun _ => []) (fun _ _ => False) rfl ?first ?pass
  case pass =>
    rintro _ W ⟨⟩
  case first =>
    refine CC.seq ?_
    refine CC.region ?_
    refine LL.val (R.assign rfl rfl) rfl rfl rfl ?_
    refine LL.nilS ?_
    refine CC.seq ?_
    refine CC.seq ?_
    refine CC.region ?_
    refine LL.val (R.move rfl rfl) rfl rfl rfl ?_
    refine LL.call (R.call rfl rfl rfl) rfl rfl rfl (snone_any _ (by assumption)) ?_
    rintro e W' ⟨rfl, rfl⟩
    refine ⟨_, rfl, ?_⟩
    refine LL.nilS ?_
    refine CC.no rfl ?_
    refine CC.skip ?_
    refine EE.thenN ?_
    refine CC.seq ?_
    refine CC.seq ?_
    refine CC.region ?_
    refine LL.val (R.move rfl rfl) rfl rfl rfl ?_
    refine LL.val (R.nil rfl rfl) rfl rfl rfl ?_
    refine LL.val (R.field rfl rfl (I.fld rfl)) rfl rfl rfl ?_
    refine LL.val (R.load rfl rfl (I.ld1 rfl (RowL.cell h rfl))) rfl rfl rfl ?_
    refine LL.nilS ?_
    refine CC.no rfl ?_
    refine CC.skip ?_
    refine EE.thenN ?_
    refine CC.seq ?_
    refine CC.seq ?_
    refine CC.region ?_
    refine LL.val (R.move rfl rfl) rfl rfl rfl ?_
    have la77 := r5.lt
    have la78 := h.lt
    (refine LL.call (R.call rfl rfl rfl) rfl rfl rfl (doing_any g _) ?_; rintro e Wa76 ⟨gb, gd, rfl, rb, rd, hgb, hgd, ba73⟩; refine ⟨_, rfl, ?_⟩)
    have zba73 := ba73.size
    replace r5 := r5.up ba73
    replace b2 := b2.trans (ba73.mono b2.size)
    replace h := h.up ba73
    replace gw := gw.up ba73
    refine LL.val (R.len rfl rfl rfl rfl) rfl rfl rfl ?_
    refine LL.val (R.move rfl rfl) rfl rfl rfl ?_
    refine LL.nilS ?_
    refine CC.block ?_
    refine CC.loopN 4 ?_
    refine RN.step ?_
    refine CC.seq ?_
    refine CC.region ?_
    refine LL.val (R.ltT rfl rfl rfl (by omega)) rfl rfl rfl ?_
    refine LL.nilS ?_
    refine CC.seq ?_
    refine CC.yes rfl ?_
    refine CC.skip ?_
    refine EE.thenN ?_
    refine CC.seq ?_
    refine CC.block ?_
    refine CC.seq ?_
    refine CC.region ?_
    refine LL.val (R.index rfl rfl rfl (I.ixS1c rfl rfl (by omega))) rfl rfl rfl ?_
    refine LL.val (R.load rfl rfl (I.ld1 rfl (RowL.cell rd rfl))) rfl rfl rfl ?_
    refine LL.val (R.assign rfl rfl) rfl rfl rfl ?_
    refine LL.nilS ?_
    refine CC.seq ?_
    refine CC.region ?_
    refine LL.val (R.move rfl rfl) rfl rfl rfl ?_
    refine LL.val (R.load rfl rfl (I.ldNc (vs := [Value.int IntKind.i64 er, Value.int IntKind.i64 ino, Value.int IntKind.i64 kd, Value.int IntKind.i64 lk, Value.int IntKind.i64 sz, Value.slice ba bn bc, strV tx, Value.slice na nn nc, Value.int IntKind.u64 ↑k2]) (RowL.cells r5 rfl) (by rfl) (by rfl))) rfl rfl rfl ?_
    (refine LL.call (R.callV rfl rfl rfl rfl) rfl rfl rfl (d1_end g gb he a n c h rb (by omega)) ?_; rintro e Wb46 ⟨rfl, hN, tb45⟩; refine ⟨_, rfl, ?_⟩; clear h; have h := hN; clear hN)
    have ztb45 := tb45.size
    replace rb := rb.kept tb45 ⟨rb.lt, by omega⟩
    replace rd := rd.kept tb45 ⟨rd.lt, by omega⟩
    replace r5 := r5.kept tb45 ⟨r5.lt, by omega⟩
    replace gw := gw.kept tb45 ⟨by omega, by omega⟩
    refine LL.nilS ?_
    refine CC.yes rfl ?_
    refine CC.exit ?_
    refine EE.inX' rfl ?_
    refine EE.thenX ?_
    refine EE.thenX ?_
    refine EE.inX ?_
    refine EE.thenN ?_
    refine CC.seq ?_
    refine CC.label ?_
    refine EE.thenN ?_
    refine CC.seq ?_
    refine CC.region ?_
    refine LL.val (R.move rfl rfl) rfl rfl rfl ?_
    refine LL.val (R.assign rfl rfl) rfl rfl rfl ?_
    refine LL.nilS ?_
    refine CC.ret ?_
    refine EE.jumpR ?_
    refine EE.ret _ rfl rfl ?_
    exact ⟨rfl, h, gw⟩
theorem take_end (a : Option Addr) (n c : Nat) (h : RowL w g 36 (stL p many key (.slice a n c) false why true)) : Calls Tryz.prog 9 #[.pointer (some ⟨g, 0, none⟩), .agg #[.int .i64 0, .int .i64 ino, .int .i64 kd, .int .i64 lk, .int .i64 sz, .slice ba bn bc, strV tx, .slice na 0 nc, .int .u64 (k2 : Int)]] w fun e w' => e = .returned (.int .i64 0) ∧ RowL w' g 36 (stL p many key (.slice a n c) true why true) ∧ Kept (fun j => j < w.heap.size ∧ j ≠ g) w w' := by
  have gw := Gw.refl g w
  have hg := h.lt
  refine X.fn Tryz.func9 rfl (n := 26) rfl rfl ?_
  refine CC.seq ?_
  refine CC.region ?_
  have l1 := h.lt
  refine LL.box [Value.int IntKind.i64 0, Value.int IntKind.i64 ino, Value.int IntKind.i64 kd, Value.int IntKind.i64 lk, Value.int IntKind.i64 sz, Value.slice ba bn bc, strV tx, Value.slice na 0 nc, Value.int IntKind.u64 ↑k2] rfl rfl rfl rfl rfl ?_
  intro W3 g4 eg4 r5 z6 b2
  replace h := h.up b2
  replace gw := gw.up b2
  refine LL.val (R.assign rfl rfl) rfl rfl rfl ?_
  refine LL.nilS ?_
  refine CC.fwd (l := 0) (α := Unit) (fun _ => []) (fun _ => []) (fun _ _ => False) rfl ?first ?pass
  case pass =>
    rintro _ W ⟨⟩
  case first =>
    refine CC.seq ?_
    refine CC.region ?_
    refine LL.val (R.assign rfl rfl) rfl rfl rfl ?_
    refine LL.nilS ?_
    refine CC.seq ?_
    refine CC.seq ?_
    refine CC.region ?_
    refine LL.val (R.move rfl rfl) rfl rfl rfl ?_
    refine LL.call (R.call rfl rfl rfl) rfl rfl rfl (snone_any _ (by assumption)) ?_
    rintro e W' ⟨rfl, rfl⟩
    refine ⟨_, rfl, ?_⟩
    refine LL.nilS ?_
    refine CC.no rfl ?_
    refine CC.skip ?_
    refine EE.thenN ?_
    refine CC.seq ?_
    refine CC.seq ?_
    refine CC.region ?_
    refine LL.val (R.move rfl rfl) rfl rfl rfl ?_
    refine LL.val (R.nil rfl rfl) rfl rfl rfl ?_
    refine LL.val (R.field rfl rfl (I.fld rfl)) rfl rfl rfl ?_
    refine LL.val (R.load rfl rfl (I.ld1 rfl (RowL.cell h rfl))) rfl rfl rfl ?_
    refine LL.nilS ?_
    refine CC.no rfl ?_
    refine CC.skip ?_
    refine EE.thenN ?_
    refine CC.seq ?_
    refine CC.seq ?_
    refine CC.region ?_
    refine LL.val (R.move rfl rfl) rfl rfl rfl ?_
    have la77 := r5.lt
    have la78 := h.lt
    (refine LL.call (R.call rfl rfl rfl) rfl rfl rfl (doing_any g _) ?_; rintro e Wa76 ⟨gb, gd, rfl, rb, rd, hgb, hgd, ba73⟩; refine ⟨_, rfl, ?_⟩)
    have zba73 := ba73.size
    replace r5 := r5.up ba73
    replace b2 := b2.trans (ba73.mono b2.size)
    replace h := h.up ba73
    replace gw := gw.up ba73
    refine LL.val (R.len rfl rfl rfl rfl) rfl rfl rfl ?_
    refine LL.val (R.move rfl rfl) rfl rfl rfl ?_
    refine LL.nilS ?_
    refine CC.block ?_
    refine CC.loopN 4 ?_
    refine RN.step ?_
    refine CC.seq ?_
    refine CC.region ?_
    refine LL.val (R.ltT rfl rfl rfl (by omega)) rfl rfl rfl ?_
    refine LL.nilS ?_
    refine CC.seq ?_
    refine CC.yes rfl ?_
    refine CC.skip ?_
    refine EE.thenN ?_
    refine CC.seq ?_
    refine CC.block ?_
    refine CC.seq ?_
    refine CC.region ?_
    refine LL.val (R.index rfl rfl rfl (I.ixS1c rfl rfl (by omega))) rfl rfl rfl ?_
    refine LL.val (R.load rfl rfl (I.ld1 rfl (RowL.cell rd rfl))) rfl rfl rfl ?_
    refine LL.val (R.assign rfl rfl) rfl rfl rfl ?_
    refine LL.nilS ?_
    refine CC.seq ?_
    refine CC.region ?_
    refine LL.val (R.move rfl rfl) rfl rfl rfl ?_
    refine LL.val (R.load rfl rfl (I.ldNc (vs := [Value.int IntKind.i64 0, Value.int IntKind.i64 ino, Value.int IntKind.i64 kd, Value.int IntKind.i64 lk, Value.int IntKind.i64 sz, Value.slice ba bn bc, strV tx, Value.slice na 0 nc, Value.int IntKind.u64 ↑k2]) (RowL.cells r5 rfl) (by rfl) (by rfl))) rfl rfl rfl ?_
    have lb113 := rb.lt
    have lb114 := rd.lt
    have lb115 := r5.lt
    have lb116 := h.lt
    (refine LL.call (R.callV rfl rfl rfl rfl) rfl rfl rfl (d1_go g gb h rb) ?_; rintro e Wb112 ⟨rfl, bb109⟩; refine ⟨_, rfl, ?_⟩)
    have zbb109 := bb109.size
    replace rb := rb.up bb109
    replace rd := rd.up bb109
    replace ba73 := ba73.trans (bb109.mono ba73.size)
    replace r5 := r5.up bb109
    replace b2 := b2.trans (bb109.mono b2.size)
    replace h := h.up bb109
    replace gw := gw.up bb109
    refine LL.nilS ?_
    refine CC.no rfl ?_
    refine CC.skip ?_
    refine EE.inN ?_
    refine EE.thenN ?_
    refine CC.region ?_
    refine LL.val (R.addIz (z := 1) rfl rfl rfl (by decide) (by decide)) rfl rfl rfl ?_
    refine LL.val (R.move rfl rfl) rfl rfl rfl ?_
    refine LL.nil ?_
    refine EE.again ?_
    refine RN.step ?_
    refine CC.seq ?_
    refine CC.region ?_
    refine LL.val (R.ltT rfl rfl rfl (by omega)) rfl rfl rfl ?_
    refine LL.nilS ?_
    refine CC.seq ?_
    refine CC.yes rfl ?_
    refine CC.skip ?_
    refine EE.thenN ?_
    refine CC.seq ?_
    refine CC.block ?_
    refine CC.seq ?_
    refine CC.region ?_
    refine LL.val (R.index rfl rfl rfl (I.ixS1c rfl rfl (by omega))) rfl rfl rfl ?_
    refine LL.val (R.load rfl rfl (I.ld1 rfl (RowL.cell rd rfl))) rfl rfl rfl ?_
    refine LL.val (R.assign rfl rfl) rfl rfl rfl ?_
    refine LL.nilS ?_
    refine CC.seq ?_
    refine CC.region ?_
    refine LL.val (R.move rfl rfl) rfl rfl rfl ?_
    refine LL.val (R.load rfl rfl (I.ldNc (vs := [Value.int IntKind.i64 0, Value.int IntKind.i64 ino, Value.int IntKind.i64 kd, Value.int IntKind.i64 lk, Value.int IntKind.i64 sz, Value.slice ba bn bc, strV tx, Value.slice na 0 nc, Value.int IntKind.u64 ↑k2]) (RowL.cells r5 rfl) (by rfl) (by rfl))) rfl rfl rfl ?_
    (refine LL.call (R.callV rfl rfl rfl rfl) rfl rfl rfl (d2_any g gb a n c h rb (by omega) true (by simp)) ?_; rintro e Wb278 ⟨rfl, hN, tb277⟩; refine ⟨_, rfl, ?_⟩; clear h; have h := hN; clear hN)
    have ztb277 := tb277.size
    replace rb := rb.kept tb277 ⟨rb.lt, by omega⟩
    replace rd := rd.kept tb277 ⟨rd.lt, by omega⟩
    replace r5 := r5.kept tb277 ⟨r5.lt, by omega⟩
    replace gw := gw.kept tb277 ⟨by omega, by omega⟩
    refine LL.nilS ?_
    refine CC.yes rfl ?_
    refine CC.exit ?_
    refine EE.inX' rfl ?_
    refine EE.thenX ?_
    refine EE.thenX ?_
    refine EE.inX ?_
    refine EE.thenN ?_
    refine CC.seq ?_
    refine CC.label ?_
    refine EE.thenN ?_
    refine CC.seq ?_
    refine CC.region ?_
    refine LL.val (R.move rfl rfl) rfl rfl rfl ?_
    refine LL.val (R.assign rfl rfl) rfl rfl rfl ?_
    refine LL.nilS ?_
    refine CC.ret ?_
    refine EE.jumpR ?_
    refine EE.ret _ rfl rfl ?_
    exact ⟨rfl, h, gw⟩
theorem take_over (a : Option Addr) (n c : Nat) (h : RowL w g 36 (stL p many key (.slice a n c) true why true)) : Calls Tryz.prog 9 #[.pointer (some ⟨g, 0, none⟩), .agg #[.int .i64 er, .int .i64 ino, .int .i64 kd, .int .i64 lk, .int .i64 sz, .slice ba bn bc, strV tx, .slice na nn nc, .int .u64 (k2 : Int)]] w fun e w' => e = .returned (.int .i64 5) ∧ Below w.heap.size w w' := by
  have q := Below.refl w.heap.size w
  refine X.fn Tryz.func9 rfl (n := 26) rfl rfl ?_
  refine CC.seq ?_
  refine CC.region ?_
  have l1 := h.lt
  refine LL.box [Value.int IntKind.i64 er, Value.int IntKind.i64 ino, Value.int IntKind.i64 kd, Value.int IntKind.i64 lk, Value.int IntKind.i64 sz, Value.slice ba bn bc, strV tx, Value.slice na nn nc, Value.int IntKind.u64 ↑k2] rfl rfl rfl rfl rfl ?_
  intro W3 g4 eg4 r5 z6 b2
  replace h := h.up b2
  replace q := q.trans (b2.mono q.size)
  refine LL.val (R.assign rfl rfl) rfl rfl rfl ?_
  refine LL.nilS ?_
  refine CC.fwd (l := 0) (α := Unit) (fun _ => []) (fun _ => [(5, .int .i64 5)]) (fun _ W => Below w.heap.size w W) rfl ?first ?pass
  case pass =>
    rintro _ W q
    refine CC.seq ?_
    refine CC.skip ?_
    refine EE.thenN ?_
    refine CC.seq ?_
    refine CC.region ?_
    refine LL.val (R.move rfl rfl) rfl rfl rfl ?_
    refine LL.val (R.assign rfl rfl) rfl rfl rfl ?_
    refine LL.nilS ?_
    refine CC.ret ?_
    refine EE.jumpR ?_
    refine EE.ret _ rfl rfl ?_
    exact ⟨rfl, q⟩
  case first =>
    refine CC.seq ?_
    refine CC.region ?_
    refine LL.val (R.assign rfl rfl) rfl rfl rfl ?_
    refine LL.nilS ?_
    refine CC.seq ?_
    refine CC.seq ?_
    refine CC.region ?_
    refine LL.val (R.move rfl rfl) rfl rfl rfl ?_
    refine LL.call (R.call rfl rfl rfl) rfl rfl rfl (snone_any _ (by assumption)) ?_
    rintro e W' ⟨rfl, rfl⟩
    refine ⟨_, rfl, ?_⟩
    refine LL.nilS ?_
    refine CC.no rfl ?_
    refine CC.skip ?_
    refine EE.thenN ?_
    refine CC.seq ?_
    refine CC.seq ?_
    refine CC.region ?_
    refine LL.val (R.move rfl rfl) rfl rfl rfl ?_
    refine LL.val (R.nil rfl rfl) rfl rfl rfl ?_
    refine LL.val (R.field rfl rfl (I.fld rfl)) rfl rfl rfl ?_
    refine LL.val (R.load rfl rfl (I.ld1 rfl (RowL.cell h rfl))) rfl rfl rfl ?_
    refine LL.nilS ?_
    refine CC.yes rfl ?_
    refine CC.seq ?_
    refine CC.region ?_
    refine LL.val (R.assign rfl rfl) rfl rfl rfl ?_
    refine LL.nilS ?_
    refine CC.goto ?_
    refine EE.thenG ?_
    exact EE.jumpTo () rfl ⟨rfl, trivial⟩ q
theorem take_more (hn0 : 0 < nn) (a : Option Addr) (n c : Nat) (ts us : List Nm) (h : RowL w g 36 (stL p many key (.slice a n c) false why true)) (o : OwnsT nmE 3 w 0 56 (.slice a n c) ts) (hno : ∀ b, (Value.slice a n c).ownBlock = some b → b ≠ g) (hv : ReadsT nmE 3 w (.slice na nn nc) us) (hvn : ∀ x, na = some x → x.block ≠ g) (h1 : ts.length ≤ 1000000) (h2 : us.length ≤ 1000000) : Calls Tryz.prog 9 #[.pointer (some ⟨g, 0, none⟩), .agg #[.int .i64 0, .int .i64 ino, .int .i64 kd, .int .i64 lk, .int .i64 sz, .slice ba bn bc, strV tx, .slice na nn nc, .int .u64 (k2 : Int)]] w fun e w' => e = .returned (.int .i64 0) ∧ ∃ a' n' c', RowL w' g 36 (stL p many k2 (.slice a' n' c') false why true) ∧ OwnsT nmE 3 w' 0 56 (.slice a' n' c') (ts ++ us) ∧ ((Value.slice a' n' c').ownBlock = (Value.slice a n c).ownBlock ∨ ∃ b, (Value.slice a' n' c').ownBlock = some b ∧ w.heap.size ≤ b) ∧ Kept (fun j => j < w.heap.size ∧ j ≠ g ∧ (Value.slice a n c).ownBlock ≠ some j) w w' := by
  have gw := Gw.refl g w
  have hg := h.lt
  have hol : ∀ b, (Value.slice a n c).ownBlock = some b → b < w.heap.size := fun b hb => by
    rcases o.above with h0 | ⟨b', h0, h1, h2⟩
    · rw [h0] at hb; cases hb
    · rw [h0] at hb; cases hb; exact h2
  refine X.fn Tryz.func9 rfl (n := 26) rfl rfl ?_
  refine CC.seq ?_
  refine CC.region ?_
  have l1 := h.lt
  refine LL.box [Value.int IntKind.i64 0, Value.int IntKind.i64 ino, Value.int IntKind.i64 kd, Value.int IntKind.i64 lk, Value.int IntKind.i64 sz, Value.slice ba bn bc, strV tx, Value.slice na nn nc, Value.int IntKind.u64 ↑k2] rfl rfl rfl rfl rfl ?_
  intro W3 g4 eg4 r5 z6 b2
  replace h := h.up b2
  replace o := o.up b2
  replace hv := hv.up b2
  replace gw := gw.up b2
  refine LL.val (R.assign rfl rfl) rfl rfl rfl ?_
  refine LL.nilS ?_
  refine CC.fwd (l := 0) (α := Unit) (fun _ => []) (fun _ => []) (fun _ _ => False) rfl ?first ?pass
  case pass =>
    rintro _ W ⟨⟩
  case first =>
    refine CC.seq ?_
    refine CC.region ?_
    refine LL.val (R.assign rfl rfl) rfl rfl rfl ?_
    refine LL.nilS ?_
    refine CC.seq ?_
    refine CC.seq ?_
    refine CC.region ?_
    refine LL.val (R.move rfl rfl) rfl rfl rfl ?_
    refine LL.call (R.call rfl rfl rfl) rfl rfl rfl (snone_any _ (by assumption)) ?_
    rintro e W' ⟨rfl, rfl⟩
    refine ⟨_, rfl, ?_⟩
    refine LL.nilS ?_
    refine CC.no rfl ?_
    refine CC.skip ?_
    refine EE.thenN ?_
    refine CC.seq ?_
    refine CC.seq ?_
    refine CC.region ?_
    refine LL.val (R.move rfl rfl) rfl rfl rfl ?_
    refine LL.val (R.nil rfl rfl) rfl rfl rfl ?_
    refine LL.val (R.field rfl rfl (I.fld rfl)) rfl rfl rfl ?_
    refine LL.val (R.load rfl rfl (I.ld1 rfl (RowL.cell h rfl))) rfl rfl rfl ?_
    refine LL.nilS ?_
    refine CC.no rfl ?_
    refine CC.skip ?_
    refine EE.thenN ?_
    refine CC.seq ?_
    refine CC.seq ?_
    refine CC.region ?_
    refine LL.val (R.move rfl rfl) rfl rfl rfl ?_
    have la77 := r5.lt
    have la78 := h.lt
    (refine LL.call (R.call rfl rfl rfl) rfl rfl rfl (doing_any g _) ?_; rintro e Wa76 ⟨gb, gd, rfl, rb, rd, hgb, hgd, ba73⟩; refine ⟨_, rfl, ?_⟩)
    have zba73 := ba73.size
    replace r5 := r5.up ba73
    replace b2 := b2.trans (ba73.mono b2.size)
    replace h := h.up ba73
    replace o := o.up ba73
    replace hv := hv.up ba73
    replace gw := gw.up ba73
    refine LL.val (R.len rfl rfl rfl rfl) rfl rfl rfl ?_
    refine LL.val (R.move rfl rfl) rfl rfl rfl ?_
    refine LL.nilS ?_
    refine CC.block ?_
    refine CC.loopN 4 ?_
    refine RN.step ?_
    refine CC.seq ?_
    refine CC.region ?_
    refine LL.val (R.ltT rfl rfl rfl (by omega)) rfl rfl rfl ?_
    refine LL.nilS ?_
    refine CC.seq ?_
    refine CC.yes rfl ?_
    refine CC.skip ?_
    refine EE.thenN ?_
    refine CC.seq ?_
    refine CC.block ?_
    refine CC.seq ?_
    refine CC.region ?_
    refine LL.val (R.index rfl rfl rfl (I.ixS1c rfl rfl (by omega))) rfl rfl rfl ?_
    refine LL.val (R.load rfl rfl (I.ld1 rfl (RowL.cell rd rfl))) rfl rfl rfl ?_
    refine LL.val (R.assign rfl rfl) rfl rfl rfl ?_
    refine LL.nilS ?_
    refine CC.seq ?_
    refine CC.region ?_
    refine LL.val (R.move rfl rfl) rfl rfl rfl ?_
    refine LL.val (R.load rfl rfl (I.ldNc (vs := [Value.int IntKind.i64 0, Value.int IntKind.i64 ino, Value.int IntKind.i64 kd, Value.int IntKind.i64 lk, Value.int IntKind.i64 sz, Value.slice ba bn bc, strV tx, Value.slice na nn nc, Value.int IntKind.u64 ↑k2]) (RowL.cells r5 rfl) (by rfl) (by rfl))) rfl rfl rfl ?_
    have lb113 := rb.lt
    have lb114 := rd.lt
    have lb115 := r5.lt
    have lb116 := h.lt
    (refine LL.call (R.callV rfl rfl rfl rfl) rfl rfl rfl (d1_go g gb h rb) ?_; rintro e Wb112 ⟨rfl, bb109⟩; refine ⟨_, rfl, ?_⟩)
    have zbb109 := bb109.size
    replace rb := rb.up bb109
    replace rd := rd.up bb109
    replace ba73 := ba73.trans (bb109.mono ba73.size)
    replace r5 := r5.up bb109
    replace b2 := b2.trans (bb109.mono b2.size)
    replace h := h.up bb109
    replace o := o.up bb109
    replace hv := hv.up bb109
    replace gw := gw.up bb109
    refine LL.nilS ?_
    refine CC.no rfl ?_
    refine CC.skip ?_
    refine EE.inN ?_
    refine EE.thenN ?_
    refine CC.region ?_
    refine LL.val (R.addIz (z := 1) rfl rfl rfl (by decide) (by decide)) rfl rfl rfl ?_
    refine LL.val (R.move rfl rfl) rfl rfl rfl ?_
    refine LL.nil ?_
    refine EE.again ?_
    refine RN.step ?_
    refine CC.seq ?_
    refine CC.region ?_
    refine LL.val (R.ltT rfl rfl rfl (by omega)) rfl rfl rfl ?_
    refine LL.nilS ?_
    refine CC.seq ?_
    refine CC.yes rfl ?_
    refine CC.skip ?_
    refine EE.thenN ?_
    refine CC.seq ?_
    refine CC.block ?_
    refine CC.seq ?_
    refine CC.region ?_
    refine LL.val (R.index rfl rfl rfl (I.ixS1c rfl rfl (by omega))) rfl rfl rfl ?_
    refine LL.val (R.load rfl rfl (I.ld1 rfl (RowL.cell rd rfl))) rfl rfl rfl ?_
    refine LL.val (R.assign rfl rfl) rfl rfl rfl ?_
    refine LL.nilS ?_
    refine CC.seq ?_
    refine CC.region ?_
    refine LL.val (R.move rfl rfl) rfl rfl rfl ?_
    refine LL.val (R.load rfl rfl (I.ldNc (vs := [Value.int IntKind.i64 0, Value.int IntKind.i64 ino, Value.int IntKind.i64 kd, Value.int IntKind.i64 lk, Value.int IntKind.i64 sz, Value.slice ba bn bc, strV tx, Value.slice na nn nc, Value.int IntKind.u64 ↑k2]) (RowL.cells r5 rfl) (by rfl) (by rfl))) rfl rfl rfl ?_
    (refine LL.call (R.callV rfl rfl rfl rfl) rfl rfl rfl (d2_any g gb a n c h rb (by omega) false (by simp; omega)) ?_; rintro e Wb278 ⟨rfl, hN, tb277⟩; refine ⟨_, rfl, ?_⟩; clear h; have h := hN; clear hN; replace o := own_kept o tb277 (fun b hb => ⟨by have := hol b hb; omega, hno b hb⟩); replace hv := reads_kept hv tb277 (fun x n1 c1 e h8 hl => ⟨hl, hvn x (Value.slice.inj e).1⟩))
    have ztb277 := tb277.size
    replace rb := rb.kept tb277 ⟨rb.lt, by omega⟩
    replace rd := rd.kept tb277 ⟨rd.lt, by omega⟩
    replace r5 := r5.kept tb277 ⟨r5.lt, by omega⟩
    replace gw := gw.kept tb277 ⟨by omega, by omega⟩
    refine LL.nilS ?_
    refine CC.no rfl ?_
    refine CC.skip ?_
    refine EE.inN ?_
    refine EE.thenN ?_
    refine CC.region ?_
    refine LL.val (R.addIz (z := 2) rfl rfl rfl (by decide) (by decide)) rfl rfl rfl ?_
    refine LL.val (R.move rfl rfl) rfl rfl rfl ?_
    refine LL.nil ?_
    refine EE.again ?_
    refine RN.step ?_
    refine CC.seq ?_
    refine CC.region ?_
    refine LL.val (R.ltT rfl rfl rfl (by omega)) rfl rfl rfl ?_
    refine LL.nilS ?_
    refine CC.seq ?_
    refine CC.yes rfl ?_
    refine CC.skip ?_
    refine EE.thenN ?_
    refine CC.seq ?_
    refine CC.block ?_
    refine CC.seq ?_
    refine CC.region ?_
    refine LL.val (R.index rfl rfl rfl (I.ixS1c rfl rfl (by omega))) rfl rfl rfl ?_
    refine LL.val (R.load rfl rfl (I.ld1 rfl (RowL.cell rd rfl))) rfl rfl rfl ?_
    refine LL.val (R.assign rfl rfl) rfl rfl rfl ?_
    refine LL.nilS ?_
    refine CC.seq ?_
    refine CC.region ?_
    refine LL.val (R.move rfl rfl) rfl rfl rfl ?_
    refine LL.val (R.load rfl rfl (I.ldNc (vs := [Value.int IntKind.i64 0, Value.int IntKind.i64 ino, Value.int IntKind.i64 kd, Value.int IntKind.i64 lk, Value.int IntKind.i64 sz, Value.slice ba bn bc, strV tx, Value.slice na nn nc, Value.int IntKind.u64 ↑k2]) (RowL.cells r5 rfl) (by rfl) (by rfl))) rfl rfl rfl ?_
    (refine LL.call (R.callV rfl rfl rfl rfl) rfl rfl rfl (d3_any g gb a n c ts us 0 h rb (by omega) o (fun b hb => ⟨hno b hb, by have := hol b hb; omega⟩) hv h1 h2 (Nat.zero_le _)) ?_; rintro e W9 ⟨rfl, a', n', c', hN, o9, hva, t9⟩; refine ⟨_, rfl, ?_⟩; clear rb rd r5 hv o h; have gz := gw.size; have hk9 : Kept (fun j => j < w.heap.size ∧ j ≠ g ∧ (Value.slice a n c).ownBlock ≠ some j) w W9 := (Kept.less gw (fun j h => ⟨h.1, h.2.1⟩)).trans (t9.less (fun j h => ⟨by have := h.1; omega, h.2.1, h.2.2⟩)); have hvb : (Value.slice a' n' c').ownBlock = (Value.slice a n c).ownBlock ∨ ∃ b, (Value.slice a' n' c').ownBlock = some b ∧ w.heap.size ≤ b := (by rcases hva with e | ⟨b, e, hb⟩; exact .inl e; exact .inr ⟨b, e, by omega⟩); clear t9 gw)
    refine LL.nilS ?_
    refine CC.yes rfl ?_
    refine CC.exit ?_
    refine EE.inX' rfl ?_
    refine EE.thenX ?_
    refine EE.thenX ?_
    refine EE.inX ?_
    refine EE.thenN ?_
    refine CC.seq ?_
    refine CC.label ?_
    refine EE.thenN ?_
    refine CC.seq ?_
    refine CC.region ?_
    refine LL.val (R.move rfl rfl) rfl rfl rfl ?_
    refine LL.val (R.assign rfl rfl) rfl rfl rfl ?_
    refine LL.nilS ?_
    refine CC.ret ?_
    refine EE.jumpR ?_
    refine EE.ret _ rfl rfl ?_
    exact ⟨rfl, _, _, _, hN, o9, hvb, hk9⟩
end
end Go.Proofs.YtompfnnmiccipaaGreatDoor
/- clear behind the end of a slice of structs that the call owns; s[lo:hi]. -/
namespace Go.Proofs.YtompfnnmiccipaaGreatDoor
set_option linter.unusedVariables false
set_option linter.unusedSimpArgs false
open Go.RowKit Go.Shelf

section
variable {α : Type} {enc : α → List Value} {k : Nat} {P : Program} {T e : TypeId} {z : Value} {bytes : Nat}
end
end Go.Proofs.YtompfnnmiccipaaGreatDoor
/- An element of a slice of structs that the call owns, stored anew; the first elements of one. -/
namespace Go.Proofs.YtompfnnmiccipaaGreatDoor
set_option linter.unusedVariables false
set_option linter.unusedSimpArgs false
open Go.RowKit Go.Shelf

section
variable {α : Type} {enc : α → List Value} {k : Nat}
theorem Enc.set (E : Enc enc k) (ts : List α) (i : Nat) (t : α) (h : i < ts.length) : (ts.set i t).flatMap enc = (ts.flatMap enc).take (i * k) ++ enc t ++ (ts.flatMap enc).drop (i * k + k) := by
  have hp : i * k + k = (i + 1) * k := by rw [Nat.add_mul]; omega
  rw [List.set_eq_take_append_cons_drop, if_pos h, List.flatMap_append, List.flatMap_cons, hp, E.drop, E.take, List.append_assoc]
theorem OwnsT.block {w : World} {base e : Nat} {v : Value} {ts : List α} (h : OwnsT enc k w base e v ts) : (v = .slice Option.none 0 0 ∧ ts = []) ∨ ∃ g cap, v = .slice (some ⟨g, 0, Option.none⟩) ts.length cap ∧ ts.length ≤ cap ∧ base ≤ g ∧ g < w.heap.size := by
  rcases h.2 with ⟨e1, h0⟩ | ⟨g, cap, cur, e1, hbg, hg, hnc, _⟩
  · exact .inl ⟨e1, List.eq_nil_of_length_eq_zero h0⟩
  · exact .inr ⟨g, cap, e1, hnc, hbg, (Array.getElem?_eq_some_iff.1 hg).1⟩
end

section
variable {α : Type} {enc : α → List Value} {k : Nat} {P : Program} {w : World} {o : Oper} {n : Nat} {D : List Deferred} {M : Slots} {T e : TypeId} {z : Value} {bytes : Nat} {r : Option Nat} {ops : Array Oper} {Q : Exit → Act → World → Prop} {rest : List Oper}
end
end Go.Proofs.YtompfnnmiccipaaGreatDoor
/- A field of an element of a slice of structs that the call owns, stored anew. -/
namespace Go.Proofs.YtompfnnmiccipaaGreatDoor
set_option linter.unusedVariables false
set_option linter.unusedSimpArgs false
open Go.RowKit Go.Shelf

section
variable {α : Type} {enc : α → List Value} {k : Nat} {P : Program} {e : TypeId} {r : Option Nat} {ops : Array Oper} {Q : Exit → Act → World → Prop} {rest : List Oper} {w : World} {n : Nat} {D : List Deferred} {M : Slots} {o : Oper}
end
end Go.Proofs.YtompfnnmiccipaaGreatDoor
/- Slices whose elements have many cells: made, copied; parts of elements loaded and stored. Over any program. -/
namespace Go.Proofs.YtompfnnmiccipaaGreatDoor
set_option linter.unusedVariables false
set_option linter.unusedSimpArgs false
open Go.RowKit Go.Shelf

/-- k cells from a place on. -/
structure CellsN (w : World) (p : Addr) (k : Nat) (vs : List Value) : Prop where
  at' : Cells w p vs
  len : vs.length = k
section
variable {w w' : World} {p : Addr} {k b o : Nat} {vs : List Value} {P : Program} {t : TypeId}
theorem CellsN.lt (h : CellsN w ⟨b, o, none⟩ k vs) (hk : 0 < k) : b < w.heap.size := by
  have hl := h.len
  obtain ⟨u, hu⟩ : ∃ u, vs[0]? = some u := ⟨_, List.getElem?_eq_getElem (by omega)⟩
  have := h.at' 0 u hu
  rw [add_plain] at this
  exact World.block_lt_of_cell? _ _ this
theorem CellsN.up (h : CellsN w ⟨b, o, none⟩ k vs) (hb : Below w.heap.size w w') : CellsN w' ⟨b, o, none⟩ k vs := ⟨fun j u hu => by
  have h1 := h.at' j u hu
  rw [add_plain] at *
  exact (hb.cell (p := ⟨b, o + j, none⟩) (World.block_lt_of_cell? _ _ h1)).trans h1, h.len⟩
theorem CellsN.gr {r : Nat} (h : CellsN w ⟨b, o, none⟩ k vs) (hg : w.grownBy w' (some r)) (hne : b ≠ r) : CellsN w' ⟨b, o, none⟩ k vs := ⟨fun j u hu => by
  have h1 := h.at' j u hu
  rw [add_plain] at *
  exact (World.cell?_of_block (hg.block b (World.block_lt_of_cell? _ _ h1) (by simpa using hne))).trans h1, h.len⟩
theorem CellsN.kept {K : Nat → Prop} (h : CellsN w ⟨b, o, none⟩ k vs) (hk : Kept K w w') (hb : K b) : CellsN w' ⟨b, o, none⟩ k vs := ⟨fun j u hu => by
  have h1 := h.at' j u hu
  rw [add_plain] at *
  exact (World.cell?_of_block (hk.block b hb)).trans h1, h.len⟩
theorem CellsN.cell {u : Value} (h : CellsN w ⟨b, o, none⟩ k vs) {j : Nat} (hu : vs[j]? = some u) : w.cell? ⟨b, o + j, none⟩ = some u := by
  have := h.at' j u hu
  rwa [add_plain] at this
theorem RowL.cellsN {g e off : Nat} {xs : List Value} (h : RowL w g e xs) (hv : (xs.drop off).take k = vs) (hl : off + k ≤ xs.length) : CellsN w ⟨g, off, none⟩ k vs := by
  have hlen : vs.length = k := by rw [← hv, List.length_take, List.length_drop]; omega
  exact ⟨h.cells (by rw [hlen]; exact hv), hlen⟩
theorem RowL.elemN {α : Type} {enc : α → List Value} {g e i : Nat} {ts : List α} {x : α} (E : Enc enc k) (h : RowL w g e (ts.flatMap enc)) (hx : ts[i]? = some x) : CellsN w ⟨g, i * k, none⟩ k (enc x) := by
  have hi := (List.getElem?_eq_some_iff.1 hx).1
  have hf := E.flat ts
  have hin : i * k + k ≤ ts.length * k := by
    have : (i + 1) * k ≤ ts.length * k := Nat.mul_le_mul_right _ hi
    rw [Nat.add_mul] at this
    omega
  refine h.cellsN ?_ (by omega)
  rw [E.drop, ← Nat.one_mul k, E.take]
  rw [show ts.drop i = x :: ts.drop (i + 1) by rw [← (List.getElem?_eq_some_iff.1 hx).2]; exact List.drop_eq_getElem_cons hi]
  simp
theorem ReadsT.elemN {α : Type} {enc : α → List Value} (E : Enc enc k) {off n cap i : Nat} {ts : List α} {x : α} (h : ReadsT enc k w (.slice (some ⟨b, off, none⟩) n cap) ts) (hx : ts[i]? = some x) : CellsN w ⟨b, off + i * k, none⟩ k (enc x) := by
  obtain ⟨b', off', e, _, hc⟩ := h.get E hx
  simp only [Option.some.injEq, Addr.mk.injEq] at e
  obtain ⟨rfl, rfl, _⟩ := e
  exact ⟨hc, E.len x⟩
theorem ReadsT.kp {α : Type} {enc : α → List Value} {K : Nat → Prop} {off n cap : Nat} {ts : List α} (h : ReadsT enc k w (.slice (some ⟨b, off, none⟩) n cap) ts) (hk : Kept K w w') (hb : K b) : ReadsT enc k w' (.slice (some ⟨b, off, none⟩) n cap) ts :=
  h.sameB hk.size fun _ ho => (hk.block b hb).trans ho
end

section
variable {α : Type} {enc : α → List Value} {k : Nat} {P : Program} {w : World} {o : Oper} {n : Nat} {D : List Deferred} {M : Slots} {T e : TypeId} {z : Value} {bytes : Nat} {r : Option Nat} {ops : Array Oper} {Q : Exit → Act → World → Prop} {rest : List Oper}
end
end Go.Proofs.YtompfnnmiccipaaGreatDoor
