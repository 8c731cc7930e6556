/- What the statements' walks use: Kit, Pipe, Exec, Step, Range, Free, TRows, TGrow, TClear, TSet, TFld, Kept, Up, Auto, GrowR, FreeZ, Res, Seq, SeqZ, Grow, Res1, Sl, TWalk, OwnZ, CellE. -/
import Derived.WalkKit
import Derived.Lib.Hide
import Derived.RangeFuncBox
import Derived.Deep.AppendLies
import Derived.Deep.RegionLaw
import Derived.Deep.DeepMust
import Derived.WalkSpells
import Derived.WalkLawsBesides
import Derived.Lib.SlBytesConst
import Derived.RangeFuncNested
import Derived.RangeFuncBound
import Derived.RangeFuncCalls
import Derived.RangeFuncLeaves
import Derived.Shelf.Abstract
import Derived.Shelf.RegionOpen
import Derived.OwnWalkIn
import Derived.TacticsInMore
import Derived.LoopNIn
import Derived.LoopIn
import Derived.StillTailTactics
import Derived.OrdersIn
import Derived.Laws.CopyRow
import Derived.IntWalk
import Derived.Laws.OwnMore
import Derived.ArgAppend
import Derived.ScopeJumps
import Derived.Scope
import Derived.Deep.RegionLawGrows
import Derived.Deep.RegionWith
/- What is said of slices, over any program: 'Reads': a slice whose elements are these; small facts on worlds. -/
namespace Go.Proofs.Ytajfffoaebjnlaa
set_option linter.unusedVariables false
set_option linter.unusedSimpArgs false
open Go.RowKit

/-- v is a slice, of one-cell elements, that are xs in the world w. -/
def Reads (w : World) (v : Value) (xs : List Value) : Prop :=
  ∃ a cap, v = .slice a xs.length cap ∧ xs.length ≤ cap ∧
    (xs ≠ [] → ∃ b off, a = some ⟨b, off, none⟩ ∧ b < w.heap.size ∧ ∀ j, j < xs.length → w.cell? ⟨b, off + j, none⟩ = xs[j]?)

theorem Reads.nil (w : World) : Reads w (.slice none 0 0) [] := ⟨none, 0, rfl, Nat.le_refl _, fun h => (h rfl).elim⟩

theorem Reads.same {w w' : World} {v : Value} {xs : List Value} (h : Reads w v xs) (hs : w.heap.size ≤ w'.heap.size) (hb : ∀ k, k < w.heap.size → w'.heap[k]? = w.heap[k]?) : Reads w' v xs := by
  obtain ⟨a, cap, e, hc, h⟩ := h
  refine ⟨a, cap, e, hc, fun hne => ?_⟩
  obtain ⟨b, off, ha, hlt, hcell⟩ := h hne
  exact ⟨b, off, ha, Nat.lt_of_lt_of_le hlt hs, fun j hj => (World.cell?_of_block (hb b hlt)).trans (hcell j hj)⟩

theorem Reads.below {w w' : World} {v : Value} {xs : List Value} (h : Reads w v xs) (hb : Below w.heap.size w w') : Reads w' v xs := h.same hb.size hb.block

theorem Reads.drew {w : World} {v : Value} {xs : List Value} (h : Reads w v xs) : Reads w.drew v xs := h.same (Nat.le_refl _) fun _ _ => rfl

theorem Reads.alloc {w : World} {v : Value} {xs : List Value} (h : Reads w v xs) (o : Obj) : Reads (w.alloc o) v xs := h.below ((Below.refl _ _).alloc (Nat.le_refl _) o)

theorem reads_of_owns {w : World} {base : Nat} {e : TypeId} {v : Value} {n : Nat} {xs : List Value} (h : w.ownsRow base e 1 v n xs) : Reads w v xs := by
  have hl : xs.length = n := by simpa using h.1
  rcases h.2 with ⟨rfl, rfl⟩ | ⟨g, cap, cur, rfl, hbg, hg, hnc, hcm, hcs, htake⟩
  · have : xs = [] := List.eq_nil_of_length_eq_zero hl
    subst this
    exact Reads.nil w
  · subst hl
    refine ⟨_, cap, rfl, hnc, fun _ => ⟨g, 0, rfl, (Array.getElem?_eq_some_iff.1 hg).1, fun j hj => ?_⟩⟩
    have := h.cells (g := g) rfl j xs[j] (by simp [hj])
    simpa [Addr.add_lit, hj] using this

/-- The element k, as the walk asks for it. -/
theorem Reads.at {w : World} {a : Option Addr} {len cap : Nat} {xs : List Value} (h : Reads w (.slice a len cap) xs) : len = xs.length ∧ len ≤ cap ∧ (0 < len → ∃ b off, a = some ⟨b, off, none⟩ ∧ b < w.heap.size ∧ ∀ j, j < len → w.cell? ⟨b, off + j, none⟩ = some (xs.getD j undef)) := by
  obtain ⟨a', cap', e, hc, h⟩ := h
  cases e
  refine ⟨rfl, hc, fun hl => ?_⟩
  obtain ⟨b, off, ha, hlt, hcell⟩ := h (by intro e; simp [e] at hl)
  exact ⟨b, off, ha, hlt, fun j hj => by rw [hcell j hj]; simp [hj]⟩

theorem Reads.form {w : World} {v : Value} {xs : List Value} (h : Reads w v xs) : ∃ a cap, v = .slice a xs.length cap ∧ xs.length ≤ cap ∧ (0 < xs.length → ∃ b off, a = some ⟨b, off, none⟩ ∧ b < w.heap.size ∧ ∀ j, j < xs.length → w.cell? ⟨b, off + j, none⟩ = some (xs.getD j undef)) := by
  obtain ⟨a, cap, rfl, hc, h'⟩ := id h
  exact ⟨a, cap, rfl, hc, h.at.2.2⟩

/-- A list of numbers of a kind. -/
abbrev ints (k : IntKind) (ns : List Nat) : List Value := ns.map fun n : Nat => Value.int k (n : Int)

/-- A slice of numbers, written out. -/
theorem Reads.ints {w : World} {v : Value} {k : IntKind} {ns : List Nat} (h : Reads w v (ints k ns)) : ∃ a cap, v = .slice a ns.length cap ∧ ns.length ≤ cap ∧ (0 < ns.length → ∃ b off, a = some ⟨b, off, none⟩ ∧ b < w.heap.size ∧ ∀ j, j < ns.length → w.cell? ⟨b, off + j, none⟩ = some (.int k ((ns[j]?.getD 0 : Nat) : Int))) := by
  obtain ⟨a, cap, rfl, hc, h'⟩ := h.form
  simp only [List.length_map] at *
  refine ⟨a, cap, rfl, hc, fun hl => ?_⟩
  obtain ⟨b, off, ha, hlt, hcell⟩ := h' hl
  refine ⟨b, off, ha, hlt, fun j hj => ?_⟩
  rw [hcell j hj]
  simp [List.getD, hj]

theorem ret1 {v v' : Value} (h : v = v') : Ending.returned v = .returned v' := by rw [h]
theorem take_snoc {α : Type} (l : List α) (d : α) (k : Nat) (h : k < l.length) : l.take (k + 1) = l.take k ++ [l[k]?.getD d] := by
  rw [List.take_succ_eq_append_getElem h]; simp [h]

/-- An element type of one cell, as the append law wants it. -/
structure El (P : Program) (T e : TypeId) (z : Value) (bytes : Nat) : Prop where
  under : P.underlying T = some (.slice e)
  info : ∃ i, P.info? e = some i ∧ i.zero = some z ∧ i.size = 1 ∧ i.bytes = bytes
  one : z.cells = #[z]

section
variable {P : Program} {T e : TypeId} {z : Value} {bytes : Nat}

/-- 'make([]T, l, n)': an equation for the walk. -/
theorem run_mk (I : El P T e z bytes) (l n : Nat) (hl : l ≤ n) (hb : bytes * n ≤ 281474976710656) (hn : n ≤ 9223372036854775807) (L C : Int) (hL : L = (l : Int)) (hC : C = (n : Int)) (w : World) :
    (Instr.makeSlice T (.int .i64 L) (.int .i64 C)).run P w = .ok (.slice (some ⟨w.heap.size, 0, none⟩) l n) (w.alloc (.cells (madeCells #[z] n) e)) := by
  subst hL hC
  obtain ⟨i, hi, hz, hsz, hby⟩ := I.info
  have hb' : (i.bytes : Int) * (n : Int) ≤ 281474976710656 := by
    have h : ((i.bytes * n : Nat) : Int) ≤ 281474976710656 := by rw [hby]; omega
    rwa [Int.natCast_mul] at h
  have h := run_make (P := P) w T e i z I.under hi hz .i64 .i64 l n (by omega) (by omega) hb' (by omega)
  simpa [hsz, I.one] using h

theorem madeCells_toList (z : Value) (n : Nat) : (madeCells #[z] n).toList = List.replicate n z := by
  apply List.ext_getElem
  · simp [size_madeCells]
  · intro k h1 h2
    simp [madeCells, Nat.mod_one]

/-- The same at a plain region's list. -/
theorem list_app {ops : Array Oper} {rest : List Oper} {o : Oper} {a : Act} {w : World} {Q : Exit → Act → World → Prop} (I : El P T e z bytes) {s x : Operand}
    (hgd : o.guard = none) (ho : o.op = .call { callee := .builtin .append, args := #[s, x], argTypes := #[T, T] })
    {base n c : Nat} {v u : Value} {g : Addr} {xs : List Value} (hs : a.eval s = v) (hx : a.eval x = .slice (some g) 1 c) (hown : w.ownsRow base e 1 v n xs) (hnew : w.cell? g = some u) (h1 : u.oneCell' = true)
    (hb : (n + 1) * bytes ≤ 140737488355328) (h63 : n + 1 ≤ maxLen) (hbase : base ≤ w.heap.size)
    (h : ∀ g cap w', w'.ownsRow base e 1 (.slice (some ⟨g, 0, none⟩) (n + 1) cap) (n + 1) (xs ++ [u]) → w.grownBy w' v.ownBlock → (v.ownBlock = some g ∨ g = w.heap.size) → g < w'.heap.size → wpList P ops Q rest (a.put o.dst (.slice (some ⟨g, 0, none⟩) (n + 1) cap)) w') :
    wpList P ops Q (o :: rest) a w := by
  obtain ⟨i, hi, hz, hsz, hby⟩ := I.info
  have hzs : z.cells.size = 1 := by rw [I.one]; rfl
  refine wpList_append_lies w hgd s x T ho base e i z 1 bytes I.under hi hz hsz hby hzs (by decide) v n xs hs hown g 1 c [u] hx rfl ?_ ?_ (by decide) h63 hb hbase _ rfl h
  · intro j u' hj
    cases j with
    | zero => simp at hj; subst hj; simpa [Addr.add] using hnew
    | succ j => simp at hj
  · intro u' hu; simp at hu; subst hu; exact h1
end

theorem cell_new (w : World) (u : Value) (e : TypeId) : (w.alloc (.cells #[u] e)).cell? ⟨w.heap.size, 0, none⟩ = some u := by
  rw [World.cell?_alloc_at _ _ _ _ rfl]; rfl
theorem cell_new_d (w : World) (u : Value) (e : TypeId) : (w.alloc (.cells #[u] e)).drew.cell? ⟨w.heap.size, 0, none⟩ = some u := cell_new w u e

/-- Behind one element's append to what the call owns (its element laid into a block of its own first): what lay below n0 lies as it lay. -/
theorem below_app {w w1 : World} {n0 e : Nat} {v : Value} {k : Nat} {xs : List Value} {o : Obj} (hrow : w.ownsRow n0 e 1 v k xs) (hn : n0 ≤ w.heap.size) (hg : (w.alloc o).grownBy w1 v.ownBlock) : Below n0 w w1 :=
  ((Below.refl n0 w).alloc hn o).grown hg (by simp; omega) fun j ej => by
    rcases hrow.2 with ⟨rfl, _⟩ | ⟨g, cap, cur, rfl, hb, _, _⟩
    · simp [Value.ownBlock] at ej
    · obtain rfl : g = j := by simpa [Value.ownBlock] using ej
      exact hb

/-- A block that is a row of one-cell elements, none frozen: these. -/
def RowL (w : World) (g : Nat) (e : TypeId) (xs : List Value) : Prop := w.heap[g]? = some (.cells xs.toArray e (0, 0))

theorem RowL.lt {w : World} {g e : Nat} {xs : List Value} (h : RowL w g e xs) : g < w.heap.size := (Array.getElem?_eq_some_iff.1 h).1
theorem RowL.cell {w : World} {g e : Nat} {xs : List Value} (h : RowL w g e xs) {j : Nat} {u : Value} (hu : xs[j]? = some u) : w.cell? ⟨g, j, none⟩ = some u := by
  simp [World.cell?, show w.heap[g]? = _ from h, hu]
theorem RowL.frozen {w : World} {g e : Nat} {xs : List Value} (h : RowL w g e xs) (j : Nat) : w.frozen? ⟨g, j, none⟩ = false := by
  simp [World.frozen?, show w.heap[g]? = _ from h]
theorem RowL.same {w w' : World} {g e : Nat} {xs : List Value} (h : RowL w g e xs) (hb : w'.heap[g]? = w.heap[g]?) : RowL w' g e xs := hb.trans h
theorem RowL.alloc {w : World} {g e : Nat} {xs : List Value} (h : RowL w g e xs) (o : Obj) : RowL (w.alloc o) g e xs := h.same (Below.heap_alloc w o g h.lt)
theorem RowL.drew {w : World} {g e : Nat} {xs : List Value} (h : RowL w g e xs) : RowL w.drew g e xs := h
theorem RowL.below {w w' : World} {g e B : Nat} {xs : List Value} (h : RowL w g e xs) (hb : Below B w w') (hg : g < B) : RowL w' g e xs := h.same (hb.block g hg)
theorem RowL.set {w : World} {g e : Nat} {xs : List Value} (h : RowL w g e xs) (j : Nat) (u : Value) : RowL (w.setCell ⟨g, j, none⟩ u) g e (xs.set j u) := by
  obtain ⟨hlt, hk⟩ := Array.getElem?_eq_some_iff.1 h
  show (w.heap.modify g _)[g]? = _
  rw [Array.getElem?_eq_getElem (by rw [Array.size_modify]; exact hlt), Array.getElem_modify_self, hk]
  simp
theorem RowL.new (w : World) (e : TypeId) (xs : List Value) : RowL (w.alloc (.cells xs.toArray e)) w.heap.size e xs := World.alloc_heap_new w _
theorem RowL.made (w : World) (e : TypeId) (z : Value) (n : Nat) : RowL (w.alloc (.cells (madeCells #[z] n) e)) w.heap.size e (List.replicate n z) := by
  have h : madeCells #[z] n = (List.replicate n z).toArray := by rw [← madeCells_toList]
  rw [h]
  exact RowL.new w e _
theorem RowL.reads {w : World} {g e : Nat} {xs : List Value} (h : RowL w g e xs) (cap : Nat) (hc : xs.length ≤ cap) : Reads w (.slice (some ⟨g, 0, none⟩) xs.length cap) xs :=
  ⟨_, cap, rfl, hc, fun _ => ⟨g, 0, rfl, h.lt, fun j hj => by rw [Nat.zero_add, h.cell (j := j) (u := xs[j]) (by simp [hj])]; simp [hj]⟩⟩
section
variable {P : Program} {T e : TypeId} {z : Value} {bytes : Nat}
end

theorem Reads.take {w : World} {a : Option Addr} {len cap : Nat} {xs : List Value} (h : Reads w (.slice a len cap) xs) (m : Nat) (hm : m ≤ len) (c : Nat) (hc : m ≤ c) : Reads w (.slice a m c) (xs.take m) := by
  obtain ⟨a', cap', e', hc', h'⟩ := h
  cases e'
  refine ⟨a, c, by simp [Nat.min_eq_left hm], by simp; omega, fun hne => ?_⟩
  obtain ⟨b, off, ha, hb, hcell⟩ := h' (by intro e; simp [e] at hne)
  refine ⟨b, off, ha, hb, fun j hj => ?_⟩
  simp only [List.length_take] at hj
  rw [hcell j (by omega)]
  rw [List.getElem?_take, if_pos (by omega)]

/-- The text that bytes make. -/
def strB (bs : List Nat) : ByteArray := ⟨(bs.map UInt8.ofNat).toArray⟩

theorem fold_strB (bs : List Nat) (r : ByteArray) : (bs.map fun n : Nat => (n : Int)).foldl (fun r n => r.push (UInt8.ofNat n.toNat)) r = ⟨r.data ++ (bs.map UInt8.ofNat).toArray⟩ := by
  induction bs generalizing r with
  | nil => simp
  | cons b bs ih => simp only [List.map_cons, List.foldl_cons, ih]; simp [ByteArray.push]

/-- 'string(b)'. -/
theorem run_str {P : Program} {S T e : TypeId} {w : World} {v : Value} {bs : List Nat} (hS : P.underlying S = some (.slice e)) (he : P.underlying e = some (.int .u8)) (hT : P.underlying T = some .string)
    (h : Reads w v (Go.Proofs.Ytajfffoaebjnlaa.ints .u8 bs)) : (convert S T v).run P w = .ok (.string (strB bs)) w := by
  obtain ⟨a, cap, rfl, hc, hcells⟩ := h.ints
  rw [run_convert_bytes_string w S T e a bs.length cap hS he hT]
  cases a with
  | none =>
    have : bs = [] := by
      rcases Nat.eq_zero_or_pos bs.length with h0 | h0
      · exact List.eq_nil_of_length_eq_zero h0
      · obtain ⟨b, off, ha, _⟩ := hcells h0
        cases ha
    subst this
    simp [Conv.bytesToString, Sem.run_pure, strB]
    rfl
  | some p =>
    have hl : (loadCells p bs.length).run P w = .ok ((bs.map fun n : Nat => (n : Int)).map (Value.int .u8)).toArray w := by
      have hh := run_loadCells_list (P := P) (w := w) p ((bs.map fun n : Nat => (n : Int)).map (Value.int .u8)) (fun j v hj => by
        have hjl : j < bs.length := by
          rcases Nat.lt_or_ge j bs.length with hl | hl
          · exact hl
          · rw [List.getElem?_eq_none (by simpa using hl)] at hj; cases hj
        obtain ⟨b, off, ha, _, hcell⟩ := hcells (by omega)
        cases ha
        have hx := hcell j hjl
        simp [hjl] at hj
        subst hj
        simpa [Addr.add_lit, hjl] using hx)
      simpa using hh
    rw [run_bytesToString w p bs.length cap _ hl, fold_strB]
    rw [show ByteArray.empty.data = #[] from rfl]
    simp [strB]

theorem run_append_nilsrc {P : Program} (w : World) {t ty e : TypeId} {i : TypeInfo} (ht : P.underlying t = some (.slice e)) (hi : P.info? e = some i) (g n cap c : Nat) (h : n ≤ cap) :
    (Builtin.append_ #[t, t] ty #[.slice (some ⟨g, 0, none⟩) n cap, .slice none 0 c]).run P w = .ok (.slice (some ⟨g, 0, none⟩) n cap) w := by
  simp [Builtin.append_, run_underlying ht, sizeOf, typeInfo, hi, Builtin.lenOf, Builtin.firstCells, loadCells, loadCellsFrom, h, storeCells]
theorem run_append_nilnil {P : Program} (w : World) {t ty e : TypeId} {i : TypeInfo} (ht : P.underlying t = some (.slice e)) (hi : P.info? e = some i) (c : Nat) :
    (Builtin.append_ #[t, t] ty #[.slice none 0 0, .slice none 0 c]).run P w = .ok (.slice none 0 0) w := by
  simp [Builtin.append_, run_underlying ht, sizeOf, typeInfo, hi, Builtin.lenOf, Builtin.firstCells, loadCells, loadCellsFrom]

theorem grown_refl (w : World) (r : Option Nat) : w.grownBy w r := ⟨rfl, rfl, rfl, Nat.le_refl _, fun _ _ _ => rfl⟩

section
variable {P : Program} {T e : TypeId} {z : Value} {bytes : Nat}
/-- 'append(s, x...)': a whole slice behind one that the call owns. -/
theorem run_append_all (I : El P T e z bytes) (ty : TypeId) {base n : Nat} {v vx : Value} {xs ys : List Value} {w : World} (hown : w.ownsRow base e 1 v n xs) (hr : Reads w vx ys) (hone : ∀ u ∈ ys, u.oneCell' = true)
    (h63 : n + ys.length ≤ maxLen) (hb : (n + ys.length) * bytes ≤ 140737488355328) (hbase : base ≤ w.heap.size) :
    ∃ v' w', (Builtin.append_ #[T, T] ty #[v, vx]).run P w = .ok v' w' ∧ w'.ownsRow base e 1 v' (n + ys.length) (xs ++ ys) ∧ w.grownBy w' v.ownBlock := by
  obtain ⟨i, hi, hz, hsz, hby⟩ := I.info
  have hzs : z.cells.size = 1 := by rw [I.one]; rfl
  obtain ⟨a, cap, rfl, hc, hcell⟩ := hr
  cases a with
  | none =>
    have hys : ys = [] := by
      rcases Classical.em (ys = []) with h | h
      · exact h
      · obtain ⟨b, off, ha, _⟩ := hcell h
        cases ha
    subst hys
    rcases id hown.2 with ⟨rfl, rfl⟩ | ⟨g, cp, cur, rfl, hbg, hg, hnc, hcm, hcs, htake⟩
    · exact ⟨_, w, run_append_nilnil w I.under hi cap, by simpa using hown, grown_refl w _⟩
    · exact ⟨_, w, run_append_nilsrc w I.under hi g n cp cap hnc, by simpa using hown, grown_refl w _⟩
  | some p =>
    obtain ⟨v', w', h1, h2, h3, _⟩ := run_append_own (P := P) w base T ty e i z 1 bytes I.under hi hz hsz hby hzs (by decide) v n xs hown p ys.length cap ys (by simp)
      (fun j u hj => by
        have hjl : j < ys.length := by
          rcases Nat.lt_or_ge j ys.length with hl | hl
          · exact hl
          · rw [List.getElem?_eq_none hl] at hj; cases hj
        obtain ⟨b, off, ha, _, hh⟩ := hcell (by intro e; simp [e] at hjl)
        cases ha
        rw [Addr.add_lit, hh j hjl, hj]) hone h63 hb hbase
    exact ⟨v', w', h1, h2, h3⟩

end

end Go.Proofs.Ytajfffoaebjnlaa
/- A range over a function, for any body and any iterator, one that itself ranges over an iterator too: 'Gives': what an iterator's value gives; 'range_out', 'range_in': the statement, outermost and in a round. All at the wide fence. Over any program. -/
namespace Go.Proofs.Ytajfffoaebjnlaa
set_option linter.unusedVariables false
set_option linter.unusedSimpArgs false
open Go.RowKit Go.Shelf

/-- What a round keeps for the iterator: blocks from B on that the iterator laid (below m), and all that hold no cells. -/
structure Stays (B m : Nat) (W W' : World) : Prop where
  size : W.heap.size ≤ W'.heap.size
  same : ∀ (k : Nat) (o : Obj), B ≤ k → W.heap[k]? = some o → (k < m ∨ o.isCells = false) → W'.heap[k]? = some o

/-- What an iterator's own steps may turn: no more than that. -/
structure Turns (B m : Nat) (W W' : World) : Prop where
  os : W'.os = W.os
  tape : W'.tape = W.tape
  output : W'.output = W.output
  size : W.heap.size ≤ W'.heap.size
  same : ∀ (k : Nat) (o : Obj), W.heap[k]? = some o → (k < B ∨ (m ≤ k ∧ o.isCells = true)) → W'.heap[k]? = some o

def Abides {β : Type} (B m : Nat) (J : β → World → Prop) : Prop := ∀ s W W', J s W → Turns B m W W' → J s W'

section small
variable {B B' m n : Nat} {W W' W'' X Y : World}

theorem Stays.refl (B m : Nat) (W : World) : Stays B m W W := ⟨Nat.le_refl _, fun _ _ _ h _ => h⟩
theorem Stays.trans (h : Stays B m X W) (k : Stays B m W Y) : Stays B m X Y := ⟨Nat.le_trans h.size k.size, fun i o hb ho hc => k.same i o hb (h.same i o hb ho hc) hc⟩
theorem Stays.mono (h : Stays B m X W) (hb : B ≤ B') : Stays B' m X W := ⟨h.size, fun k o hk => h.same k o (Nat.le_trans hb hk)⟩
theorem Stays.of_below (h : Below W.heap.size W W') : Stays B m W W' :=
  ⟨h.size, fun k _ _ hk _ => (h.block k (Array.getElem?_eq_some_iff.1 hk).1).trans hk⟩
theorem Stays.alloc (h : Stays B m X W) (o : Obj) : Stays B m X (W.alloc o) := h.trans (.of_below ((Below.refl _ _).alloc (Nat.le_refl _) o))
theorem Stays.drew (h : Stays B m X W) : Stays B m X W.drew := h.trans (.of_below ((Below.refl _ _).drew))
/-- A store into a block of cells that lies ahead of B, or behind m. -/
theorem Stays.setCell (h : Stays B m X W) {p : Addr} {v : Value} (hv : W.cell? p = some v) (hp : p.block < B ∨ m ≤ p.block) (u : Value) : Stays B m X (W.setCell p u) := by
  refine h.trans ⟨by simp [World.setCell], fun k o hb hk hc => ?_⟩
  rw [Below.heap_setCell _ _ _ _ (fun e => ?_)]
  · exact hk
  · subst e
    obtain ⟨o', ho', hc'⟩ := cells_of_cell hv
    rw [hk] at ho'; cases ho'
    rcases hc with hc | hc
    · omega
    · rw [hc'] at hc; cases hc
theorem Stays.keeps (h : Stays B m X W) : KeepsFrom B X W := ⟨h.size, fun k o hb hk hc => h.same k o hb hk (.inr hc)⟩
theorem Stays.record {l : Nat} {r : Loop} (h : Stays B m X W) (hb : B ≤ l) (hl : X.heap[l]? = some (.loop r)) : W.heap[l]? = some (.loop r) := h.same l _ hb hl (.inr rfl)
/-- A turn of a block ahead of B. -/
theorem Stays.turn {l : Nat} {o : Obj} (hb : l < B) : Stays B m W (W.putObj l o) :=
  ⟨by simp, fun k _ hk hx _ => (World.putObj_heap_other (by omega)).trans hx⟩

theorem Stays.block (h : Stays B m X W) {a : Addr} {v : Value} (hv : X.cell? a = some v) (hb : B ≤ a.block) (hm : a.block < m) : W.heap[a.block]? = X.heap[a.block]? := by
  obtain ⟨o, ho, hc⟩ := cells_of_cell hv
  exact (h.same _ _ hb ho (.inl hm)).trans ho.symm
theorem Stays.cell (h : Stays B m X W) {a : Addr} {v : Value} (hv : X.cell? a = some v) (hb : B ≤ a.block) (hm : a.block < m) : W.cell? a = some v := (World.cell?_of_block (h.block hv hb hm)).trans hv
theorem Stays.frozen (h : Stays B m X W) {a : Addr} {v : Value} (hv : X.cell? a = some v) (hb : B ≤ a.block) (hm : a.block < m) : W.frozen? a = X.frozen? a := World.frozen?_of_block (h.block hv hb hm)

theorem Turns.refl (B m : Nat) (W : World) : Turns B m W W := ⟨rfl, rfl, rfl, Nat.le_refl _, fun _ _ h _ => h⟩
theorem Turns.trans (h : Turns B m X W) (k : Turns B m W Y) : Turns B m X Y :=
  ⟨k.os.trans h.os, k.tape.trans h.tape, k.output.trans h.output, Nat.le_trans h.size k.size, fun i o ho hc => k.same i o (h.same i o ho hc) hc⟩
theorem Turns.mono (h : Turns B' m X W) (hb : B ≤ B') : Turns B m X W := ⟨h.os, h.tape, h.output, h.size, fun k o hk hc => h.same k o hk (hc.imp (fun h => by omega) id)⟩
theorem Turns.of_below (h : Below W.heap.size W W') : Turns B m W W' :=
  ⟨h.os, h.tape, h.output, h.size, fun k _ hk _ => (h.block k (Array.getElem?_eq_some_iff.1 hk).1).trans hk⟩
theorem Turns.alloc (h : Turns B m X W) (o : Obj) : Turns B m X (W.alloc o) := h.trans (.of_below ((Below.refl _ _).alloc (Nat.le_refl _) o))
theorem Turns.drew (h : Turns B m X W) : Turns B m X W.drew := h.trans (.of_below ((Below.refl _ _).drew))
theorem Turns.setCell (h : Turns B m X W) {p : Addr} (hp : B ≤ p.block) (hm : p.block < m) (u : Value) : Turns B m X (W.setCell p u) :=
  h.trans ⟨rfl, rfl, rfl, by simp [World.setCell], fun k o hk hc => (Below.heap_setCell _ _ _ _ (by omega)).trans hk⟩
theorem Turns.putObj (h : Turns B m X W) {l : Nat} {o : Obj} (o' : Obj) (hb : B ≤ l) (hl : W.heap[l]? = some o) (ho : o.isCells = false) : Turns B m X (W.putObj l o') :=
  h.trans ⟨rfl, rfl, rfl, by simp, fun k x hk hc => by
    refine (World.putObj_heap_other (fun e => ?_)).trans hk
    subst e; rw [hl] at hk; cases hk; rcases hc with hc | ⟨_, hc⟩
    · omega
    · rw [ho] at hc; cases hc⟩
/-- A row of new cells, laid since, may be turned, too: what lay ahead is what counts. -/
theorem Turns.cell (h : Turns B m W W') {a : Addr} {v : Value} (hv : W.cell? a = some v) (hb : a.block < B ∨ m ≤ a.block) : W'.cell? a = some v := by
  obtain ⟨o, ho, hc⟩ := cells_of_cell hv
  refine (World.cell?_of_block ((h.same _ _ ho ?_).trans ho.symm)).trans hv
  rcases hb with hb | hb
  · exact .inl hb
  · exact .inr ⟨hb, hc⟩
theorem Turns.frozen (h : Turns B m W W') {a : Addr} {v : Value} (hv : W.cell? a = some v) (hb : a.block < B ∨ m ≤ a.block) : W'.frozen? a = W.frozen? a := by
  obtain ⟨o, ho, hc⟩ := cells_of_cell hv
  refine World.frozen?_of_block ((h.same _ _ ho ?_).trans ho.symm)
  rcases hb with hb | hb
  · exact .inl hb
  · exact .inr ⟨hb, hc⟩
theorem Turns.below (h : Turns B m W W') (hn : n ≤ B) (hs : n ≤ W.heap.size) : Below n W W' := ⟨h.os, h.tape, h.output, h.size, fun k hk => by
  have hlt : k < W.heap.size := by omega
  have ho := Array.getElem?_eq_getElem hlt
  exact (h.same k _ ho (.inl (by omega))).trans ho.symm⟩
/-- The rest of a world's blocks ahead of n stays, of cells just these. -/
theorem Below.alloc0 (w : World) (o : Obj) : Below w.heap.size w (w.alloc o) := (Below.refl _ _).alloc (Nat.le_refl _) o
end small

section abides
variable {β : Type} {B m : Nat}
theorem Abides.and {I J : β → World → Prop} (h : Abides B m I) (k : Abides B m J) : Abides B m (fun s W => I s W ∧ J s W) := fun s W W' hs ht => ⟨h s W W' hs.1 ht, k s W W' hs.2 ht⟩
theorem Abides.pure (p : β → Prop) : Abides B m (fun s (_ : World) => p s) := fun _ _ _ hs _ => hs
theorem Abides.below {n : Nat} {w₀ : World} (hn : n ≤ B) (hs : n ≤ w₀.heap.size) : Abides B m (fun (_ : β) W => Below n w₀ W) :=
  fun _ _ _ hs' ht => hs'.trans (ht.below hn (Nat.le_trans hs hs'.size))
theorem Abides.cell {b : Addr} (hb : b.block < B) (f : β → Value) : Abides B m (fun s W => W.cell? b = some (f s) ∧ W.frozen? b = false) :=
  fun _ _ _ hs ht => ⟨ht.cell hs.1 (.inl hb), (ht.frozen hs.1 (.inl hb)).trans hs.2⟩
theorem Abides.mono {B' : Nat} {I : β → World → Prop} (h : Abides B m I) (hb : B ≤ B') : Abides B' m I := fun s W W' hs ht => h s W W' hs (ht.mono hb)
theorem Abides.putObj {I : β → World → Prop} (h : Abides B m I) {s : β} {W : World} {l : Nat} {o : Obj} (o' : Obj) (hs : I s W) (hb : B ≤ l) (hl : W.heap[l]? = some o) (ho : o.isCells = false) : I s (W.putObj l o') :=
  h s W _ hs ((Turns.refl _ _ _).putObj o' hb hl ho)
theorem Abides.alloc {I : β → World → Prop} (h : Abides B m I) {s : β} {W : World} (o : Obj) (hs : I s W) : I s (W.alloc o) := h s W _ hs ((Turns.refl _ _ _).alloc o)
theorem Stays.of_grown {b : Nat} {W W' : World} (h : W.grownBy W' (some b)) (hb : b < B) : Stays B m W W' :=
  ⟨h.size, fun k o hk ho _ => (h.block k (Array.getElem?_eq_some_iff.1 ho).1 (by simp; omega)).trans ho⟩
end abides

/-- What an iterator reads between two rounds: these blocks lie as they lay. -/
structure Keeps (D : Nat → Prop) (W W' : World) : Prop where
  size : W.heap.size ≤ W'.heap.size
  same : ∀ k, D k → W'.heap[k]? = W.heap[k]?
section keeps
variable {D : Nat → Prop} {X W Y : World}
theorem Keeps.refl (D : Nat → Prop) (W : World) : Keeps D W W := ⟨Nat.le_refl _, fun _ _ => rfl⟩
theorem Keeps.trans (h : Keeps D X W) (k : Keeps D W Y) : Keeps D X Y := ⟨Nat.le_trans h.size k.size, fun i hi => (k.same i hi).trans (h.same i hi)⟩
theorem Keeps.of_below (hd : ∀ k, D k → k < W.heap.size) (h : Below W.heap.size W Y) : Keeps D W Y := ⟨h.size, fun k hk => h.block k (hd k hk)⟩
theorem Keeps.setCell (h : Keeps D X W) {p : Addr} (hp : ¬ D p.block) (u : Value) : Keeps D X (W.setCell p u) :=
  h.trans ⟨by simp [World.setCell], fun k hk => Below.heap_setCell _ _ _ _ (fun e => hp (e ▸ hk))⟩
theorem Keeps.putObj (h : Keeps D X W) {l : Nat} (hl : ¬ D l) (o : Obj) : Keeps D X (W.putObj l o) :=
  h.trans ⟨by simp, fun k hk => World.putObj_heap_other (fun e => hl (e ▸ hk))⟩
theorem Keeps.cell (h : Keeps D X W) {p : Addr} (hp : D p.block) : W.cell? p = X.cell? p := World.cell?_of_block (h.same _ hp)
theorem Keeps.mono {D' : Nat → Prop} (h : Keeps D X W) (hd : ∀ k, D' k → D k) : Keeps D' X W := ⟨h.size, fun k hk => h.same k (hd k hk)⟩
theorem Keeps.of_grown {D : Nat → Prop} {b : Nat} {W W' : World} (h : W.grownBy W' (some b)) (hd : ∀ k, D k → k < W.heap.size ∧ k ≠ b) : Keeps D W W' :=
  ⟨h.size, fun k hk => h.block k (hd k hk).1 (by simpa using (hd k hk).2)⟩
end keeps

/-- HOW THE BODY OF A ROUND MAY BE LEFT. -/
def roundP {α : Type} (B m : Nat) (D : Nat → Prop) (I : Nat → List α → World → Prop) (Ix : Code → Nat → List α → World → Prop) (xs : List α) (W : World) : Exit → Act → World → Prop
  | .normal, _, W' => Stays B m W W' ∧ Keeps D W W' ∧ I m xs W'
  | .ret, _, W' => Stays B m W W' ∧ Ix .ret m xs W'
  | .exit id, _, W' => Stays B m W W' ∧ Ix (.exit id) m xs W'
  | .goto t, _, W' => Stays B m W W' ∧ Ix (.goto t) m xs W'
  | .panic _, _, _ => False
  | .outgrown, _, _ => False

/-- A list begins as one of S does. -/
def Part {α : Type} (S : List α → Prop) (pre : List α) : Prop := ∃ xs, S xs ∧ pre <+: xs

/-- WHAT AN ITERATOR'S VALUE GIVES: one of the lists of S, or a beginning of one, where a round has said 'no more'. -/
def Gives {α : Type} (P : Program) (g : Nat) (lb : Array Value) (encs : α → Array Value) (D : Nat → Prop) (S : List α → Prop) (w : World) : Prop :=
  ∀ (l : Nat) (J Jx : Nat → List α → World → Prop) (W : World), Below w.heap.size w W → (∀ m, Abides W.heap.size m (J m)) → (∀ m, Abides W.heap.size m (Jx m)) →
    (∀ m pre x W1, W.heap.size ≤ m → J m pre W1 → Part S (pre ++ [x]) → YieldAt Fence.wide 3 P l (encs x) W1 fun e W' =>
      Stays W.heap.size m W1 W' ∧ ((e = .returned (.bool true) ∧ J m (pre ++ [x]) W' ∧ Keeps D W1 W') ∨ (e = .returned (.bool false) ∧ Jx m (pre ++ [x]) W'))) →
    (∀ m, J m [] W) →
    Calls P g (#[.func (.yield l) #[] #[]] ++ lb) W fun e W' => (∃ v, e = .returned v) ∧ ((∃ m xs, S xs ∧ J m xs W') ∨ (∃ m pre, Part S pre ∧ Jx m pre W'))

section core
variable {α : Type} {P : Program}

theorem core {l B d gf : Nat} {D : Nat → Prop} {fn : FuncId} {tm : Array Value} {ps : Array Tmp} {assign body : Code} {lb : Array Value} {encs : α → Array Value} {S : List α → Prop} {w0 W1 : World}
    (hseq : Gives P gf lb encs D S w0) (hb : Below w0.heap.size w0 W1)
    (hl : W1.heap[l]? = some (.loop { state := .ready, pending := none, fn, tmps := tm, params := ps, assign, body, defers := d }))
    (hBl : B ≤ l) (hn : ∀ k, D k → k < l) (hps : ∀ x, (encs x).size = ps.size)
    (I : Nat → List α → World → Prop) (Ix : Code → Nat → List α → World → Prop) (hI : ∀ m, Abides B m (I m)) (hIx : ∀ c m, Abides B m (Ix c m)) (h0 : ∀ m, I m [] W1)
    (Ax : α → Act → World → Prop) (hAx : ∀ x a', OwnFrom B (fun (_ : Unit) W => Ax x a' W))
    (hassign : ∀ m pre x W (K : Act → World → Prop), W1.heap.size ≤ m → I m pre W → (∀ a' W', Stays B m W W' → Keeps D W W' → I m pre W' → Ax x a' W' → K a' W') →
      assign.wpIn (Fence.wide.inRound l) 3 P (Exit.then K (fun _ _ _ => False)) { tmps := (ps.zip (encs x)).foldl (fun t (p, v) => t.setIfInBounds p v) tm, defers := [] } W)
    (hbody : ∀ m pre x a' W, W1.heap.size ≤ m → (∃ r, W.heap[l]? = some (.loop r)) → I m pre W → Ax x a' W → Part S (pre ++ [x]) →
      body.wpIn (Fence.wide.inRound l) 3 P (roundP B m D I Ix (pre ++ [x]) W) a' W) :
    Calls P gf (#[.func (.yield l) #[] #[]] ++ lb) W1 (fun e W2 => (∃ v, e = .returned v) ∧ ∃ jump W3, (Instr.endLoop l).run P W2 = .ok jump W3 ∧
      ((jump = none ∧ ∃ m xs, S xs ∧ I m xs W3) ∨ (∃ c m pre, jump = some c ∧ Part S pre ∧ Ix c m pre W3))) := by
  have hlt1 : l < W1.heap.size := (Array.getElem?_eq_some_iff.1 hl).1
  obtain ⟨rec, hrec⟩ : ∃ rec : LoopState → Option Code → Loop, rec = fun st pe => { state := st, pending := pe, fn, tmps := tm, params := ps, assign, body, defers := d } := ⟨_, rfl⟩
  have hl1 : W1.heap[l]? = some (.loop (rec .ready none)) := by rw [hrec]; exact hl
  refine (hseq l (fun m pre W => I m pre W ∧ W.heap[l]? = some (.loop (rec .ready none)))
    (fun m pre W => ∃ c, Ix c m pre W ∧ W.heap[l]? = some (.loop (rec .done (some c)))) W1 hb
    (fun m s X Y hs ht => ⟨hI m s X Y hs.1 (ht.mono (by omega)), ht.same l _ hs.2 (.inl hlt1)⟩)
    (fun m s X Y hs ht => by obtain ⟨c, hc, hx⟩ := hs; exact ⟨c, hIx c m s X Y hc (ht.mono (by omega)), ht.same l _ hx (.inl hlt1)⟩)
    ?_ (fun m => ⟨h0 m, hl1⟩)).mono ?_
  · rintro m pre x W hm ⟨hi, hlw⟩ hpart
    have hy := run_yield (P := P) (args := encs x) hlw (by rw [hrec]; exact hps x)
    rw [hrec] at hy
    refine ⟨fn, _, assign, body, hy, roundIn_of_wpIn trivial (hassign m pre x W _ hm hi ?_)⟩
    intro a' Wa hst hbe hia hax
    have hla := hst.record hBl hlw
    have hlta : l < Wa.heap.size := (Array.getElem?_eq_some_iff.1 hla).1
    obtain ⟨Wb, hWb⟩ : ∃ Wb, Wa.putObj l (.loop { rec .ready none with state := .busy }) = Wb := ⟨_, rfl⟩
    refine ⟨Wb, by rw [← hWb]; exact run_beginRound hla (by rw [hrec]), ?_⟩
    have hlb : Wb.heap[l]? = some (.loop { rec .ready none with state := .busy }) := by rw [← hWb]; exact World.putObj_heap_same hlta
    have hib : I m pre Wb := by rw [← hWb]; exact (hI m).putObj _ hia hBl hla rfl
    have haxb : Ax x a' Wb := by rw [← hWb]; exact (hAx x a').putObj (s := ()) _ hax hBl hla rfl
    have hsb : Stays W1.heap.size m W Wb := by rw [← hWb]; exact (hst.mono (by omega)).trans (.turn hlt1)
    have hDl : ¬ D l := fun h => Nat.lt_irrefl _ (hn l h)
    have hbb : Keeps D W Wb := by rw [← hWb]; exact hbe.putObj hDl _
    refine wpIn_mono (hbody m pre x a' Wb hm ⟨_, hlb⟩ hib haxb hpart) ?_
    have fin : ∀ (jump : Option Code) (W3 : World), Stays B m Wb W3 → ∃ W4, W4 = W3.putObj l (.loop (rec (if jump.isNone then .ready else .done) jump)) ∧
        (Instr.endRound l jump).run P W3 = .ok (.bool jump.isNone) W4 ∧ W4.heap[l]? = some (.loop (rec (if jump.isNone then .ready else .done) jump)) ∧
        W3.heap[l]? = some (.loop { rec .ready none with state := .busy }) ∧ Stays W1.heap.size m W W4 := fun jump W3 hs3 => by
      have hl3 := hs3.record hBl hlb
      have hr := run_endRound (P := P) jump hl3
      rw [hrec] at hr ⊢
      refine ⟨_, rfl, hr, World.putObj_heap_same (Array.getElem?_eq_some_iff.1 hl3).1, by rw [hrec] at hl3; exact hl3, ?_⟩
      exact (hsb.trans (hs3.mono (by omega))).trans (.turn hlt1)
    rintro e a3 W3 hp
    cases e with
    | normal =>
      obtain ⟨hs3, hb3, hi3⟩ := hp
      obtain ⟨W4, e4, hr, hl4, hl3, hs4⟩ := fin none W3 hs3
      refine ⟨_, W4, hr, hs4, .inl ⟨rfl, ⟨?_, hl4⟩, ?_⟩⟩
      · rw [e4]; exact (hI m).putObj _ hi3 hBl hl3 rfl
      · rw [e4]; exact (hbb.trans hb3).putObj hDl _
    | ret =>
      obtain ⟨hs3, hi3⟩ := hp
      obtain ⟨W4, e4, hr, hl4, hl3, hs4⟩ := fin (some .ret) W3 hs3
      exact ⟨_, W4, hr, hs4, .inr ⟨rfl, .ret, by rw [e4]; exact (hIx _ m).putObj _ hi3 hBl hl3 rfl, hl4⟩⟩
    | exit id =>
      obtain ⟨hs3, hi3⟩ := hp
      obtain ⟨W4, e4, hr, hl4, hl3, hs4⟩ := fin (some (.exit id)) W3 hs3
      exact ⟨_, W4, hr, hs4, .inr ⟨rfl, .exit id, by rw [e4]; exact (hIx _ m).putObj _ hi3 hBl hl3 rfl, hl4⟩⟩
    | goto t =>
      obtain ⟨hs3, hi3⟩ := hp
      obtain ⟨W4, e4, hr, hl4, hl3, hs4⟩ := fin (some (.goto t)) W3 hs3
      exact ⟨_, W4, hr, hs4, .inr ⟨rfl, .goto t, by rw [e4]; exact (hIx _ m).putObj _ hi3 hBl hl3 rfl, hl4⟩⟩
    | panic ch => exact hp.elim
    | outgrown => exact hp.elim
  · rintro e W2 ⟨hv, (⟨m, xs, hS, hi, hlw⟩ | ⟨m, pre, hp, c, hi, hlw⟩)⟩
    · have hr := run_endLoop (P := P) hlw (by rw [hrec]; simp)
      refine ⟨hv, _, _, hr, .inl ⟨by rw [hrec], m, xs, hS, (hI m).putObj _ hi hBl hlw rfl⟩⟩
    · have hr := run_endLoop (P := P) hlw (by rw [hrec]; simp)
      refine ⟨hv, _, _, hr, .inr ⟨c, m, pre, by rw [hrec], hp, (hIx c m).putObj _ hi hBl hlw rfl⟩⟩

/-- THE STATEMENT, OUTERMOST. D is the block of the rounds' deferred calls: at the function's return it is taken once more. -/
theorem range_out {gf : Nat} {D : Nat → Prop} {g : Operand} {ps : Array Tmp} {assign body : Code} {Q : Exit → Act → World → Prop} {a : Act} {w w0 : World} {lb : Array Value} {encs : α → Array Value} {S : List α → Prop}
    (hg : a.eval g = .func (.func gf) #[] lb) (eg : ∀ args w, (callFunc gf args).run P w = .ok (.enter gf args) w)
    (hseq : Gives P gf lb encs D S w0) (hb : Below w0.heap.size w0 w) (hn : ∀ k, D k → k < w.heap.size) (hps : ∀ x, (encs x).size = ps.size)
    (I : Nat → List α → World → Prop) (Ix : Code → Nat → List α → World → Prop) (hI : ∀ m, Abides w.heap.size m (I m)) (hIx : ∀ c m, Abides w.heap.size m (Ix c m)) (h0 : ∀ m, I m [] w)
    (Ax : α → Act → World → Prop) (hAx : ∀ x a', OwnFrom w.heap.size (fun (_ : Unit) W => Ax x a' W))
    (hassign : ∀ (l m : Nat) pre x W (K : Act → World → Prop), w.heap.size ≤ m → I m pre W → (∀ a' W', Stays w.heap.size m W W' → Keeps D W W' → I m pre W' → Ax x a' W' → K a' W') →
      assign.wpIn (Fence.wide.inRound l) 3 P (Exit.then K (fun _ _ _ => False)) { tmps := (ps.zip (encs x)).foldl (fun t (p, v) => t.setIfInBounds p v) a.tmps, defers := [] } W)
    (hbody : ∀ (l m : Nat) pre x a' W, w.heap.size ≤ m → w.heap.size ≤ l → (∃ r, W.heap[l]? = some (.loop r)) → I m pre W → Ax x a' W → Part S (pre ++ [x]) →
      body.wpIn (Fence.wide.inRound l) 3 P (roundP w.heap.size m D I Ix (pre ++ [x]) W) a' W)
    (hdone : ∀ (E m : Nat) xs W, w.heap.size ≤ E → S xs → I m xs W → W.heap[E]? = some (.deferred (some [])) → Q .normal { a with defers := { target := .collected E, args := #[] } :: a.defers } W)
    (hstop : ∀ (E : Nat) (c : Code) (m : Nat) pre W, w.heap.size ≤ E → Part S pre → Ix c m pre W → W.heap[E]? = some (.deferred (some [])) →
      c.wpIn Fence.wide 3 P Q { a with defers := { target := .collected E, args := #[] } :: a.defers } W) :
    (Code.rangeFunc g ps assign body).wpIn Fence.wide 3 P Q a w := by
  refine wpIn_rangeFunc ?_
  intro fn hfn
  obtain ⟨W1, hW1⟩ : ∃ W1, (w.alloc (.deferred (some []))).alloc (.loop { state := .ready, pending := none, fn, tmps := a.tmps, params := ps, assign, body, defers := w.heap.size }) = W1 := ⟨_, rfl⟩
  have hL1 : W1.heap[w.heap.size + 1]? = some (.loop { state := .ready, pending := none, fn, tmps := a.tmps, params := ps, assign, body, defers := w.heap.size }) := by
    rw [← hW1]; have := World.alloc_heap_new (w.alloc (.deferred (some []))) (.loop { state := .ready, pending := none, fn, tmps := a.tmps, params := ps, assign, body, defers := w.heap.size }); rwa [World.size_alloc] at this
  have hK1 : W1.heap[w.heap.size]? = some (.deferred (some [])) := by
    rw [← hW1]; exact (Below.heap_alloc _ _ _ (by simp)).trans (World.alloc_heap_new w _)
  have hbw : Below w.heap.size w W1 := by rw [← hW1]; exact ((Below.refl _ w).alloc (Nat.le_refl _) _).alloc (by simp) _
  refine ⟨w.heap.size + 1, [{ target := .collected w.heap.size, args := #[] }], W1, { target := .fn (.func gf) lb, args := #[.func (.yield (w.heap.size + 1)) #[] #[]] }, W1, gf,
    #[.func (.yield (w.heap.size + 1)) #[] #[]] ++ lb, W1, ?_, ?_, fun _ _ => trivial, ?_, fun h => (by simp [Fence.wide] at h), ?_⟩
  · rw [← hW1]; exact run_enterLoop_outer _ _ _ _ _
  · simp only [resolve, hg]
    simp [go_sem]
  · simp [invoke, go_sem, eg]
  · refine callsIn_wide.2 ((core (B := w.heap.size + 1) hseq (hb.trans (hbw.mono hb.size)) hL1 (Nat.le_refl _) (fun k hk => Nat.lt_succ_of_lt (hn k hk)) hps
      (fun m pre W => I m pre W ∧ W.heap[w.heap.size]? = some (.deferred (some []))) (fun c m pre W => Ix c m pre W ∧ W.heap[w.heap.size]? = some (.deferred (some [])))
      (fun m s X Y hs ht => ⟨hI m s X Y hs.1 (ht.mono (by omega)), ht.same _ _ hs.2 (.inl (by omega))⟩)
      (fun c m s X Y hs ht => ⟨hIx c m s X Y hs.1 (ht.mono (by omega)), ht.same _ _ hs.2 (.inl (by omega))⟩)
      (fun m => ⟨hI m _ _ _ (h0 m) (.of_below hbw), hK1⟩) Ax (fun x a' s X Y row hs hg' hr => hAx x a' s X Y row hs hg' (fun r e => ⟨by have := (hr r e).1; omega, (hr r e).2⟩))
      (fun m pre x W K hm hi hK => hassign _ m pre x W K (Nat.le_trans hbw.size hm) hi.1 (fun a' W' hs hbe hi' hax => hK a' W' (hs.mono (by omega)) hbe ⟨hi', hs.same _ _ (Nat.le_refl _) hi.2 (.inr rfl)⟩ hax))
      (fun m pre x a' W hm hr hi hax hp => wpIn_mono (hbody _ m pre x a' W (Nat.le_trans hbw.size hm) (by omega) hr hi.1 hax hp) ?_)).mono ?_)
    · intro e a3 W3 h3
      have hD : ∀ {W' : World}, Stays w.heap.size m W W' → W'.heap[w.heap.size]? = some (.deferred (some [])) := fun hs => hs.same _ _ (Nat.le_refl _) hi.2 (.inr rfl)
      cases e with
      | normal => exact ⟨h3.1.mono (by omega), h3.2.1, h3.2.2, hD h3.1⟩
      | ret => exact ⟨h3.1.mono (by omega), h3.2, hD h3.1⟩
      | exit id => exact ⟨h3.1.mono (by omega), h3.2, hD h3.1⟩
      | goto t => exact ⟨h3.1.mono (by omega), h3.2, hD h3.1⟩
      | panic ch => exact h3
      | outgrown => exact h3
    · rintro e W2 ⟨⟨v, rfl⟩, jump, W3, hr, (⟨rfl, m, xs, hS, hi, hD⟩ | ⟨c, m, pre, rfl, hp, hi, hD⟩)⟩
      · exact ⟨none, W3, hr, hdone _ m xs W3 (Nat.le_refl _) hS hi hD⟩
      · exact ⟨some c, W3, hr, hstop _ c m pre W3 (Nat.le_refl _) hp hi hD⟩

/-- THE STATEMENT, OUTERMOST, WHERE A ROUND LEAVES BY 'break' AT MOST. -/
theorem range_break {id gf : Nat} {D : Nat → Prop} {g : Operand} {ps : Array Tmp} {assign body : Code} {Q : Exit → Act → World → Prop} {a : Act} {w w0 : World} {lb : Array Value} {encs : α → Array Value} {S : List α → Prop}
    (hg : a.eval g = .func (.func gf) #[] lb) (eg : ∀ args w, (callFunc gf args).run P w = .ok (.enter gf args) w)
    (hseq : Gives P gf lb encs D S w0) (hb : Below w0.heap.size w0 w) (hn : ∀ k, D k → k < w.heap.size) (hps : ∀ x, (encs x).size = ps.size)
    (I Ix : Nat → List α → World → Prop) (A : World → Prop) (hI : ∀ m, Abides w.heap.size m (I m)) (hIx : ∀ m, Abides w.heap.size m (Ix m)) (h0 : ∀ m, I m [] w)
    (Ax : α → Act → World → Prop) (hAx : ∀ x a', OwnFrom w.heap.size (fun (_ : Unit) W => Ax x a' W))
    (hIA : ∀ m xs W, S xs → I m xs W → A W) (hIxA : ∀ m pre W, Part S pre → Ix m pre W → A W)
    (hassign : ∀ (l m : Nat) pre x W (K : Act → World → Prop), w.heap.size ≤ m → I m pre W → (∀ a' W', Stays w.heap.size m W W' → Keeps D W W' → I m pre W' → Ax x a' W' → K a' W') →
      assign.wpIn (Fence.wide.inRound l) 3 P (Exit.then K (fun _ _ _ => False)) { tmps := (ps.zip (encs x)).foldl (fun t (p, v) => t.setIfInBounds p v) a.tmps, defers := [] } W)
    (hbody : ∀ (l m : Nat) pre x a' W, w.heap.size ≤ m → w.heap.size ≤ l → (∃ r, W.heap[l]? = some (.loop r)) → I m pre W → Ax x a' W → Part S (pre ++ [x]) →
      body.wpIn (Fence.wide.inRound l) 3 P (roundP w.heap.size m D I (fun c m pre W => c = .exit id ∧ Ix m pre W) (pre ++ [x]) W) a' W)
    (hafter : ∀ (E : Nat) W, w.heap.size ≤ E → A W → W.heap[E]? = some (.deferred (some [])) → Q .normal { a with defers := { target := .collected E, args := #[] } :: a.defers } W) :
    (Code.rangeFunc g ps assign body).wpIn Fence.wide 3 P (Exit.inBlock id Q) a w :=
  range_out hg eg hseq hb hn hps I (fun c m pre W => c = .exit id ∧ Ix m pre W) hI (fun c m => (Abides.pure (fun _ => c = .exit id)).and (hIx m)) h0 Ax hAx hassign hbody
    (fun E m xs W hE hS hi hK => hafter E W hE (hIA m xs W hS hi) hK)
    (fun E c m pre W hE hp hi hK => by
      obtain ⟨rfl, hi⟩ := hi
      refine wpIn_exit ?_
      have := hafter E W hE (hIxA m pre W hp hi) hK
      simpa [Exit.inBlock] using this)

end core

/-- Nothing panics. -/
def calmP (Q : Exit → Act → World → Prop) : Exit → Act → World → Prop
  | .panic _, _, _ => False
  | .outgrown, _, _ => False
  | .normal, a, w => Q .normal a w
  | .ret, a, w => Q .ret a w
  | .exit id, a, w => Q (.exit id) a w
  | .goto l, a, w => Q (.goto l) a w

/-- A function whose body ranges over functions, from its body's walk. -/
theorem calls_marks {P : Program} {f : FuncId} {fn : Func} {c : Code} {args : Array Value} {w : World} {R : Ending → World → Prop}
    (hf : P.funcs[f]? = some fn) (hb : fn.body = some c)
    (h : c.wp P (calmP (bodyPostM Fence.wide 3 P fn R)) { tmps := args ++ Array.replicate (fn.ntmps - args.size) undef, defers := [] } w) : Calls P f args w R :=
  (callsIn_wide (n := 3)).1 (callsIn_of_wp_marks hf hb trivial (wpIn_mono (wpIn_wide.2 h) fun e a w hq => by cases e <;> first | exact hq | exact hq.elim) rfl)

end Go.Proofs.Ytajfffoaebjnlaa
/- A walk by explicit steps: frames of which some slots are known ('Fr'), in the wide fence, in a round or not. Over any program. -/
namespace Go.Proofs.Ytajfffoaebjnlaa
set_option linter.unusedVariables false
set_option linter.unusedSimpArgs false
open Go.RowKit Go.Shelf

/-- The wide fence, in a round or not. -/
abbrev Wr (r : Option Nat) : Fence := { Fence.wide with round := r }
theorem callsWr {r : Option Nat} {n : Nat} {P : Program} {f : FuncId} {args : Array Value} {w : World} {R : Ending → World → Prop} (h : Calls P f args w R) : CallsIn (Wr r) n P f args w R := by
  cases r with
  | none => exact callsIn_wide.2 h
  | some l => exact CallsIn.inRound l (callsIn_wide.2 h)

abbrev Slots := Nat → Option Value
def up (M : Slots) (d : Nat) (v : Value) : Slots := fun s => match Nat.beq s d with | true => some v | false => M s
def sl : List (Nat × Value) → Slots
  | [], _ => none
  | (t, v) :: l, s => match Nat.beq s t with | true => some v | false => sl l s
/-- What is known of a frame: its size, its deferred calls, some slots. -/
structure Fr (n : Nat) (D : List Deferred) (M : Slots) (a : Act) : Prop where
  size : a.tmps.size = n
  defers : a.defers = D
  get : ∀ s v, M s = some v → a.tmps.getD s undef = v
def evM (M : Slots) : Operand → Option Value
  | .tmp s => M s
  | .const v => some v
  | .global g => some (.pointer (some ⟨g, 0, none⟩))
  | .func f => some (.func (.func f) #[] #[])
def dfB : Op → Bool
  | .defer _ => true
  | _ => false
def wantB (ops : Array Oper) (M : Slots) : Option (Nat × Bool) → Option Bool
  | none => some true
  | some (j, b) => match ((ops[j]?).bind (·.dst)).bind M with
    | some (.bool c) => some (c == b)
    | some (.tuple _) => some false
    | _ => none
def putM (M : Slots) : Option Tmp → Value → Slots
  | some d, v => up M d v
  | none, _ => M
def dstB (n : Nat) : Option Tmp → Bool
  | some d => Nat.blt d n
  | none => true

theorem beq_ne {s d : Nat} (e : s ≠ d) : Nat.beq s d = false := by
  cases hb : Nat.beq s d with
  | false => rfl
  | true => exact absurd (Nat.eq_of_beq_eq_true hb) e

section
variable {a : Act} {n : Nat} {D : List Deferred} {M : Slots}
theorem Fr.put (F : Fr n D M a) (d : Option Tmp) (v : Value) (h : dstB n d = true) : Fr n D (putM M d v) (a.put d v) := by
  cases d with
  | none => exact F
  | some d =>
    have hd : d < n := by simpa [dstB] using h
    refine ⟨by simp [Act.put, F.size], F.defers, fun s u hs => ?_⟩
    simp only [putM, up] at hs
    by_cases e : s = d
    · subst e
      rw [Nat.beq_refl] at hs
      cases hs
      simp [Act.put, Array.getD_eq_getD_getElem?, F.size, hd]
    · rw [beq_ne e] at hs
      rw [← F.get s u hs]
      simp [Act.put, Array.getD_eq_getD_getElem?, Array.getElem?_setIfInBounds, Ne.symm e]
theorem Fr.ev (F : Fr n D M a) {x : Operand} {v : Value} (h : evM M x = some v) : a.eval x = v := by
  cases x with
  | tmp s => exact F.get s v h
  | const u => cases h; rfl
  | global g => cases h; rfl
  | func f => cases h; rfl
theorem Fr.want (F : Fr n D M a) {ops : Array Oper} {o : Oper} {t : Bool} (h : wantB ops M o.guard = some t) : Region.wanted o (yielded ops a.tmps) = t := by
  unfold Region.wanted
  cases hg : o.guard with
  | none => rw [hg] at h; simpa [wantB] using h
  | some p =>
    obtain ⟨j, b⟩ := p
    rw [hg] at h
    simp only [wantB] at h
    cases hd : (ops[j]?).bind (·.dst) with
    | none => rw [hd] at h; cases h
    | some d =>
      rw [hd] at h
      simp only [Option.bind_some] at h
      cases hm : M d with
      | none => rw [hm] at h; cases h
      | some v =>
        rw [hm] at h
        cases v <;> try (cases h; done)
        case tuple vs =>
          simp only [Option.some.injEq] at h
          subst h
          have hget := F.get d _ hm
          have hy : yielded ops a.tmps j = none := by
            unfold yielded
            rw [hd, Option.bind_some]
            rw [Array.getD_eq_getD_getElem?] at hget
            cases ht : a.tmps[d]? with
            | none => rfl
            | some u => rw [ht] at hget; simp only [Option.getD_some] at hget; subst hget; rfl
          simp [hy]
        rename_i c
        simp at h
        have hget := F.get d _ hm
        have hlt : d < a.tmps.size := by
          rcases Nat.lt_or_ge d a.tmps.size with hl | hl
          · exact hl
          · rw [Array.getD_eq_getD_getElem?, Array.getElem?_eq_none hl] at hget; cases hget
        rw [Array.getD_eq_getD_getElem?, Array.getElem?_eq_getElem hlt] at hget
        simp only [Option.getD_some] at hget
        have hy : yielded ops a.tmps j = some c := by
          unfold yielded
          rw [hd]
          simp only [Option.bind_some, Array.getElem?_eq_getElem hlt, hget]
        show (yielded ops a.tmps j == some b) = t
        rw [hy, ← h]
        rfl
def Fits (M : Slots) : List (Nat × Value) → Prop
  | [] => True
  | (s, v) :: l => M s = some v ∧ Fits M l
theorem Fits.sub : ∀ {L : List (Nat × Value)}, Fits M L → ∀ s v, sl L s = some v → M s = some v
  | [], _, s, v, h => by cases h
  | (t, u) :: l, hf, s, v, h => by
    simp only [sl] at h
    by_cases e : s = t
    · subst e; rw [Nat.beq_refl] at h; cases h; exact hf.1
    · rw [beq_ne e] at h; exact Fits.sub hf.2 s v h
theorem Fr.keep (F : Fr n D M a) (L : List (Nat × Value)) (h : Fits M L) : Fr n D (sl L) a := ⟨F.size, F.defers, fun s v hs => F.get s v (h.sub s v hs)⟩
def lg : List Value → Slots
  | [], _ => none
  | v :: _, 0 => some v
  | _ :: l, s + 1 => lg l s
def argM (args : Array Value) : Slots := lg args.toList
theorem lg_eq : ∀ (l : List Value) (s : Nat), lg l s = l[s]?
  | [], _ => by simp [lg]
  | v :: l, 0 => rfl
  | v :: l, s + 1 => by simp [lg, lg_eq l s]
theorem Fr.start (args : Array Value) (n : Nat) (hn : args.size ≤ n) : Fr n [] (argM args) { tmps := args ++ Array.replicate (n - args.size) undef, defers := [] } := by
  refine ⟨by simp; omega, rfl, fun s v h => ?_⟩
  have h : args[s]? = some v := by simpa [argM, lg_eq] using h
  obtain ⟨hs, hv⟩ := Array.getElem?_eq_some_iff.1 h
  simp [Array.getD_eq_getD_getElem?, Array.getElem?_append, hs, hv]
end

section
variable {P : Program} {ops : Array Oper} {w w' : World} {o : Oper} {rest : List Oper} {n : Nat} {D : List Deferred} {M : Slots} {v : Value} {r : Option Nat} {Q : Exit → Act → World → Prop}

/-- What an operation does in frames of which this is known. -/
def Runs (P : Program) (n : Nat) (D : List Deferred) (M : Slots) (o : Oper) (w : World) (x : Next) (w' : World) : Prop := ∀ a, Fr n D M a → (execOp a.eval o).run P w = .ok x w'
structure CC (r : Option Nat) (P : Program) (Q : Exit → Act → World → Prop) (n : Nat) (D : List Deferred) (M : Slots) (c : Code) (w : World) : Prop where
  h : ∀ a, Fr n D M a → c.wpIn (Wr r) 3 P Q a w
structure LL (r : Option Nat) (P : Program) (ops : Array Oper) (Q : Exit → Act → World → Prop) (n : Nat) (D : List Deferred) (M : Slots) (l : List Oper) (w : World) : Prop where
  h : ∀ a, Fr n D M a → wpListIn (Wr r) 3 P ops Q l a w
structure SS (P : Program) (ops : Array Oper) (w : World) (R : Act → Prop) (n : Nat) (D : List Deferred) (M : Slots) (l : List Oper) : Prop where
  h : ∀ a, Fr n D M a → wpStill P ops w R l a
structure EE (Q : Exit → Act → World → Prop) (n : Nat) (D : List Deferred) (M : Slots) (e : Exit) (w : World) : Prop where
  h : ∀ a, Fr n D M a → Q e a w

theorem about_wr (a : Act) : ∀ f, o.about P w a.eval = some f → (Wr r).fn f := fun _ _ => trivial
theorem wpIn_of_run {a : Act} {K : Act → World → Prop} (hdf : dfB o.op = false) {x : Next} (h : (execOp a.eval o).run P w = .ok x w') (k : o.uponIn (Wr r) 3 P a K Q (.ok x w')) : o.wpIn (Wr r) 3 P a w K Q := by
  refine ⟨about_wr a, ?_⟩
  rw [Oper.semAt_eq _ _ _ (by intro c hc; rw [hc] at hdf; cases hdf), h]
  exact k

theorem LL.val (hr : Runs P n D M o w (.value v) w') (hd : dstB n o.dst = true) (hdf : dfB o.op = false) (hg : wantB ops M o.guard = some true) (k : LL r P ops Q n D (putM M o.dst v) rest w') : LL r P ops Q n D M (o :: rest) w := LL.mk fun a F => by
  refine wpListIn_step fun K hK => ?_
  rw [if_pos (F.want hg)]
  exact wpIn_of_run hdf (hr a F) (hK _ _ (k.h _ (F.put _ _ hd)))
theorem LL.unit (hr : Runs P n D M o w .skip w') (hd : o.dst = none) (hdf : dfB o.op = false) (hg : wantB ops M o.guard = some true) (k : LL r P ops Q n D M rest w') : LL r P ops Q n D M (o :: rest) w := LL.mk fun a F => by
  refine wpListIn_step fun K hK => ?_
  rw [if_pos (F.want hg)]
  refine wpIn_of_run hdf (hr a F) ?_
  show K (a.put o.dst undef) w'
  rw [hd]
  exact hK _ _ (k.h _ F)
theorem LL.skip (hd : dstB n o.dst = true) (hg : wantB ops M o.guard = some false) (k : LL r P ops Q n D (putM M o.dst undef) rest w) : LL r P ops Q n D M (o :: rest) w := LL.mk fun a F => by
  refine wpListIn_step fun K hK => ?_
  rw [if_neg (by rw [F.want hg]; simp)]
  exact ⟨about_wr a, hK _ _ (k.h _ (F.put _ _ hd))⟩
theorem LL.call {f : FuncId} {args : Array Value} {R : Ending → World → Prop} (hr : Runs P n D M o w (.enter f args) w) (hd : dstB n o.dst = true) (hdf : dfB o.op = false) (hg : wantB ops M o.guard = some true) (hc : Calls P f args w R)
    (k : ∀ e w', R e w' → ∃ v, e = .returned v ∧ LL r P ops Q n D (putM M o.dst v) rest w') : LL r P ops Q n D M (o :: rest) w := LL.mk fun a F => by
  refine wpListIn_step fun K hK => ?_
  rw [if_pos (F.want hg)]
  refine wpIn_of_run hdf (hr a F) ⟨fun h => (by cases h), callsWr (hc.mono fun e w' hR => ?_)⟩
  obtain ⟨v, rfl, hk⟩ := k e w' hR
  exact hK _ _ (hk.h _ (F.put _ _ hd))
/-- The end of a region, where the code goes on. -/
theorem LL.nil (k : EE Q n D M .normal w) : LL r P ops Q n D M [] w := LL.mk fun a F => k.h a F
theorem LL.nilS {y : Code} (k : CC r P Q n D M y w) : LL r P ops (Exit.then (y.wpIn (Wr r) 3 P Q) Q) n D M [] w := LL.mk fun a F => k.h a F

theorem SS.val {R : Act → Prop} (hr : Runs P n D M o w (.value v) w) (hd : dstB n o.dst = true) (hg : wantB ops M o.guard = some true) (k : SS P ops w R n D (putM M o.dst v) rest) : SS P ops w R n D M (o :: rest) := SS.mk fun a F => by
  refine wpStill_step fun K hK => ?_
  rw [if_pos (F.want hg)]
  unfold Oper.still
  rw [hr a F]
  exact ⟨rfl, hK _ (k.h _ (F.put _ _ hd))⟩
theorem SS.skip {R : Act → Prop} (hd : dstB n o.dst = true) (hg : wantB ops M o.guard = some false) (k : SS P ops w R n D (putM M o.dst undef) rest) : SS P ops w R n D M (o :: rest) := SS.mk fun a F => by
  refine wpStill_step fun K hK => ?_
  rw [if_neg (by rw [F.want hg]; simp)]
  exact hK _ (k.h _ (F.put _ _ hd))
theorem SS.call {R : Act → Prop} {f : FuncId} {args : Array Value} (hr : Runs P n D M o w (.enter f args) w) (hd : dstB n o.dst = true) (hg : wantB ops M o.guard = some true) (hc : Calls P f args w fun e w' => e = .returned v ∧ w = w') (k : SS P ops w R n D (putM M o.dst v) rest) : SS P ops w R n D M (o :: rest) := SS.mk fun a F => by
  refine wpStill_step fun K hK => ?_
  rw [if_pos (F.want hg)]
  unfold Oper.still
  rw [hr a F]
  exact ⟨rfl, v, hc.mono fun _ _ h => ⟨h.1, h.2.symm⟩, hK _ (k.h _ (F.put _ _ hd))⟩
theorem SS.nil {l : List Oper} (k : LL r P ops Q n D M l w) : SS P ops w (fun a => wpListIn (Wr r) 3 P ops Q l a w) n D M [] := SS.mk fun a F => wpStill_nil (k.h a F)
theorem SS.nilQ (k : EE Q n D M .normal w) : SS P ops w (fun a => Q .normal a w) n D M [] := SS.mk fun a F => wpStill_nil (k.h a F)

/-! Regions that draw their order, in a round or not. -/
theorem wpIn_of_still {a : Act} {K : Act → Prop} {K' : Act → World → Prop} (hdf : dfB o.op = false) (h : ∀ a, K a → K' a w) (hh : o.still P a w K) : o.wpIn (Wr r) 3 P a w K' Q := by
  unfold Oper.still at hh
  refine ⟨about_wr a, ?_⟩
  rw [Oper.semAt_eq _ _ _ (by intro c hc; rw [hc] at hdf; cases hdf)]
  generalize (execOp a.eval o).run P w = x at *
  cases x with
  | ok y w' =>
    cases y <;> simp only [Oper.stillUpon] at hh <;> simp only [Oper.uponIn]
    case enter f args =>
      obtain ⟨rfl, v, hc, hn⟩ := hh
      exact ⟨fun h => (by cases h), callsWr (hc.mono fun e w'' ⟨he, hw⟩ => by subst he; subst hw; exact h _ hn)⟩
    all_goals (obtain ⟨rfl, h2⟩ := hh; exact h _ h2)
  | halt x w' => simp only [Oper.stillUpon] at hh
theorem wpOpIn_of_stOp {i : Nat} {a : Act} {K : Act → Prop} {K' : Act → World → Prop} (hdf : ∀ (j : Nat) (o : Oper), ops[j]? = some o → dfB o.op = false) (h : ∀ a, K a → K' a w) (hh : stOp P ops w i K a) : wpOpIn (Wr r) 3 P ops Q i K' a w := by
  unfold stOp at hh
  unfold wpOpIn
  split
  · rename_i ho; simp only [ho] at hh; exact h _ hh
  · rename_i o ho
    simp only [ho] at hh
    split
    · rename_i hw; simp only [hw, if_true] at hh; exact wpIn_of_still (hdf _ _ ho) h hh
    · rename_i hw; simp only [hw] at hh; exact ⟨about_wr a, h _ hh⟩
theorem wpAnyIn_of_head {md : Region.Mode} {m g : Nat} {L : Array Bool → Act → Prop} (hdf : ∀ (j : Nat) (o : Oper), ops[j]? = some o → dfB o.op = false) (hL : ∀ listed a, L listed a → wpAnyIn (Wr r) 3 P md ops Q g listed a w) :
    ∀ (f : Nat) (listed : Array Bool) (a : Act), wpAnyL P md ops w m L f listed a → wpAnyIn (Wr r) 3 P md ops Q (f + g) listed a w
  | 0, listed, a, h => by rw [Nat.zero_add]; exact hL _ _ h
  | f + 1, listed, a, h => by
    rw [show f + 1 + g = (f + g) + 1 by omega]
    exact ⟨fun h0 => absurd h0 h.1, fun i hi => wpOpIn_of_stOp hdf (fun a' h' => wpAnyIn_of_head hdf hL f _ a' h') (h.2 i hi).2⟩
theorem wpAnyIn_of_seq {md : Region.Mode} : ∀ (l : List Oper) (k : Nat) (listed : Array Bool) (a : Act) (w : World), (∀ j, l[j]? = ops[k + j]?) →
    Region.seqB md ops l.length k listed = true → wpListIn (Wr r) 3 P ops Q l a w → wpAnyIn (Wr r) 3 P md ops Q l.length listed a w
  | [], _, _, _, _, _, hB, h => ⟨by simpa [Region.seqB] using hB, h⟩
  | o :: l, k, listed, a, w, hl, hB, h => by
    have h0 : ops[k]? = some o := by simpa using (hl 0).symm
    simp only [List.length_cons, Region.seqB, Bool.and_eq_true, decide_eq_true_eq] at hB
    refine ⟨fun h1 => (by rw [hB.1] at h1; cases h1), fun i hi => ?_⟩
    rw [hB.1] at hi
    have hik : i = k := by simpa using hi
    subst hik
    have hw : wpOpIn (Wr r) 3 P ops Q i (wpListIn (Wr r) 3 P ops Q l) a w := by unfold wpOpIn; simp only [h0]; exact h
    exact wpOpIn_mono (fun a' w' h' => wpAnyIn_of_seq l (i + 1) _ a' w' (fun j => by have := hl (j + 1); simpa [Nat.add_assoc, Nat.add_comm 1 j] using this) hB.2 h') hw
theorem wpAnyIn_of_still {md : Region.Mode} {R : Act → Prop} (hdf : ∀ (j : Nat) (o : Oper), ops[j]? = some o → dfB o.op = false) (hQ : ∀ a, R a → Q .normal a w) : ∀ (fuel : Nat) (listed : Array Bool) (a : Act),
    wpAnyS P md ops w R fuel listed a → wpAnyIn (Wr r) 3 P md ops Q fuel listed a w
  | 0, _, _, h => ⟨h.1, hQ _ h.2⟩
  | fuel + 1, _, _, h => ⟨fun h0 => hQ _ (h.1 h0), fun i hi => wpOpIn_of_stOp hdf (fun a' => wpAnyIn_of_still hdf hQ fuel _ a') (h.2 i hi)⟩

/-- Where the first m operations leave the world alone, and the rest follows in one order. -/
theorem CC.tail {id : Nat} {l : List Oper} (m : Nat) (hm : P.follows .mixedOrders = true) (hB : (Region.lexTailB .any l.toArray m && l.all fun o => !dfB o.op) = true)
    (h : SS P l.toArray w.drew (fun a => wpListIn (Wr r) 3 P l.toArray Q (l.drop m) a w.drew) n D M (l.take m)) : CC r P Q n D M (.region id l.toArray true) w := CC.mk fun a F => by
  rw [Bool.and_eq_true] at hB
  obtain ⟨hB, hdf0⟩ := hB
  have hdf : ∀ (j : Nat) o, l.toArray[j]? = some o → dfB o.op = false := fun j o ho => by
    have := List.all_eq_true.1 hdf0 o (by simpa using List.mem_of_getElem? (by simpa using ho))
    simpa using this
  have h := h.h a F
  simp only [Region.lexTailB, Bool.and_eq_true, decide_eq_true_eq] at hB
  obtain ⟨⟨⟨⟨hsel, hn⟩, hs⟩, hc⟩, hlex⟩ := hB
  have hn' : m < l.length := by simpa using hn
  have htl : (l.take m).length = m := by simp; omega
  have hdl : (l.drop m).length = l.toArray.size - m := by simp
  have inv0 : HeadInv .any l.toArray m (Array.replicate l.toArray.size false) :=
    ⟨by simp, fun j oj _ hl => (by rw [getD_replicate_false] at hl; cases hl), fun t _ ht => getD_in (by simpa using ht) (getD_replicate_false _ _)⟩
  have H := wpAnyL_lex (md := .any) (g := l.toArray.size - m) hsel hs hc hn (l.take m) 0 _ a (fun j hj => by
    have hj' : j < m := by rw [htl] at hj; exact hj
    simp [hj']) (by simpa using htl) inv0 (by rw [htl]; exact hlex) h
  refine wpIn_region_any hm ?_
  have := wpAnyIn_of_head (r := r) (Q := Q) (g := l.toArray.size - m) hdf (fun listed a' hL => by
    have := wpAnyIn_of_seq (r := r) (md := .any) (Q := Q) (l.drop m) m listed a' w.drew (fun j => by simp [List.getElem?_drop]) (by rw [hdl]; exact hL.1) hL.2
    rwa [hdl] at this) _ _ _ H
  rw [htl, show m + (l.toArray.size - m) = l.toArray.size by omega] at this
  exact this
/-- Where all leave the world alone. -/
theorem CC.quiet {id : Nat} {l : List Oper} (hm : P.follows .mixedOrders = true) (hB : (Region.lexB .any l.toArray && l.all fun o => !dfB o.op) = true)
    (h : SS P l.toArray w.drew (fun a => Q .normal a w.drew) n D M l) : CC r P Q n D M (.region id l.toArray true) w := CC.mk fun a F => by
  rw [Bool.and_eq_true] at hB
  obtain ⟨hB, hdf0⟩ := hB
  have hdf : ∀ (j : Nat) o, l.toArray[j]? = some o → dfB o.op = false := fun j o ho => by
    have := List.all_eq_true.1 hdf0 o (by simpa using List.mem_of_getElem? (by simpa using ho))
    simpa using this
  simp only [Region.lexB, Bool.and_eq_true] at hB
  refine wpIn_region_any hm (wpAnyIn_of_still (R := fun a' => Q .normal a' w.drew) hdf (fun _ h => h) _ _ _ ?_)
  have := wpAnyS_lex (md := .any) hB.1 l 0 (Array.replicate l.toArray.size false) a (by simp) (by simpa using hB.2) (h.h a F)
  simpa using this

theorem CC.region {id : Nat} {l : List Oper} (h : LL r P l.toArray Q n D M l w) : CC r P Q n D M (.region id l.toArray false) w := CC.mk fun a F => wpIn_region_lit (h.h a F)
theorem CC.seq {x y : Code} (h : CC r P (Exit.then (y.wpIn (Wr r) 3 P Q) Q) n D M x w) : CC r P Q n D M (.seq x y) w := CC.mk fun a F => wpIn_seq (h.h a F)
theorem CC.yes {c : Operand} {x y : Code} (hc : evM M c = some (.bool true)) (h : CC r P Q n D M x w) : CC r P Q n D M (.cond c x y) w := CC.mk fun a F => wpIn_cond_true (F.ev hc) (h.h a F)
theorem CC.no {c : Operand} {x y : Code} (hc : evM M c = some (.bool false)) (h : CC r P Q n D M y w) : CC r P Q n D M (.cond c x y) w := CC.mk fun a F => wpIn_cond_false (F.ev hc) (h.h a F)
theorem CC.if {c : Operand} {x y : Code} {t : Bool} (hc : evM M c = some (.bool t)) (h1 : t = true → CC r P Q n D M x w) (h2 : t = false → CC r P Q n D M y w) : CC r P Q n D M (.cond c x y) w := CC.mk fun a F => wpIn_cond_split (F.ev hc) (fun h => (h1 h).h a F) (fun h => (h2 h).h a F)
theorem CC.block {id : Nat} {c : Code} (h : CC r P (Exit.inBlock id Q) n D M c w) : CC r P Q n D M (.block id c) w := CC.mk fun a F => wpIn_block (h.h a F)
theorem CC.skip (h : EE Q n D M .normal w) : CC r P Q n D M .skip w := CC.mk fun a F => wpIn_skip (h.h a F)
theorem CC.label {l : Nat} (h : EE Q n D M .normal w) : CC r P Q n D M (.label l) w := CC.mk fun a F => wpIn_label (h.h a F)
theorem CC.exit {id : Nat} (h : EE Q n D M (.exit id) w) : CC r P Q n D M (.exit id) w := CC.mk fun a F => wpIn_exit (h.h a F)
theorem CC.goto {id : Nat} (h : EE Q n D M (.goto id) w) : CC r P Q n D M (.goto id) w := CC.mk fun a F => wpIn_goto (h.h a F)
theorem CC.ret (h : EE Q n D M .ret w) : CC r P Q n D M .ret w := CC.mk fun a F => wpIn_ret (h.h a F)
theorem CC.keep {c : Code} (L : List (Nat × Value)) (hL : Fits M L) (h : CC r P Q n D (sl L) c w) : CC r P Q n D M c w := CC.mk fun a F => h.h a (F.keep L hL)
/-- The loop: α says where it stands. -/
theorem CC.loop {α : Type} {c : Code} (L : α → List (Nat × Value)) (I : α → World → Prop) (μ : α → Nat) (p0 : α) (hL : Fits M (L p0)) (h0 : I p0 w)
    (round : ∀ p w, I p w → CC r P (Exit.then (fun a' w' => ∃ p', Fr n D (sl (L p')) a' ∧ I p' w' ∧ μ p' < μ p) Q) n D (sl (L p)) c w) : CC r P Q n D M (.loop c) w := CC.mk fun a F => by
  classical
  let J : Act → World → Nat → Prop := fun a w m => ∃ p, Fr n D (sl (L p)) a ∧ I p w ∧ μ p ≤ m
  have mono : ∀ {a w m m'}, m ≤ m' → J a w m → J a w m' := fun h ⟨p, h1, h2, h3⟩ => ⟨p, h1, h2, Nat.le_trans h3 h⟩
  have least : ∀ a w, (∃ m, J a w m) → ∃ m, J a w m ∧ ∀ k, J a w k → m ≤ k := by
    rintro a w ⟨m, hm⟩
    induction m using Nat.strongRecOn with
    | _ m ih =>
      by_cases h : ∃ k, k < m ∧ J a w k
      · obtain ⟨k, hk, hj⟩ := h; exact ih k hk hj
      · exact ⟨m, hm, fun k hk => by
          rcases Nat.lt_or_ge k m with h' | h'
          · exact absurd ⟨k, h', hk⟩ h
          · exact h'⟩
  refine wpIn_loop (fun a w => ∃ m, J a w m) (fun a w => if h : ∃ m, J a w m then Classical.choose (least a w h) else 0) ⟨μ p0, p0, F.keep _ hL, h0, Nat.le_refl _⟩ ?_
  intro a w hI
  have hl := Classical.choose_spec (least a w hI)
  rw [dif_pos hI]
  obtain ⟨p, hF, hp, hm⟩ := hl.1
  refine Code.wpIn_mono ?_ ((round p w hp).h a hF)
  intro e a' w' hq
  cases e <;> try exact hq
  obtain ⟨p', hF', hp', hlt⟩ := hq
  have hI' : ∃ m, J a' w' m := ⟨μ p', p', hF', hp', Nat.le_refl _⟩
  refine ⟨hI', ?_⟩
  rw [dif_pos hI']
  have := (Classical.choose_spec (least a' w' hI')).2 (μ p') ⟨p', hF', hp', Nat.le_refl _⟩
  omega
/-- A round's end. -/
theorem EE.round {α : Type} {L : α → List (Nat × Value)} {I : α → World → Prop} {μ : α → Nat} {p : α} (p' : α) (hL : Fits M (L p')) (hI : I p' w) (hμ : μ p' < μ p) : EE (Exit.then (fun a' w' => ∃ p', Fr n D (sl (L p')) a' ∧ I p' w' ∧ μ p' < μ p) Q) n D M .normal w := EE.mk fun _ F => ⟨p', F.keep _ hL, hI, hμ⟩

theorem EE.thenN {y : Code} (h : CC r P Q n D M y w) : EE (Exit.then (y.wpIn (Wr r) 3 P Q) Q) n D M .normal w := EE.mk fun a F => h.h a F
theorem EE.thenX {K : Act → World → Prop} {i : Nat} (h : EE Q n D M (.exit i) w) : EE (Exit.then K Q) n D M (.exit i) w := EE.mk fun a F => h.h a F
theorem EE.thenR {K : Act → World → Prop} (h : EE Q n D M .ret w) : EE (Exit.then K Q) n D M .ret w := EE.mk fun a F => h.h a F
theorem EE.inN {i : Nat} (h : EE Q n D M .normal w) : EE (Exit.inBlock i Q) n D M .normal w := EE.mk fun a F => h.h a F
theorem EE.inX {i : Nat} (h : EE Q n D M .normal w) : EE (Exit.inBlock i Q) n D M (.exit i) w := EE.mk fun a F => by simp only [Exit.inBlock, if_true]; exact h.h a F
theorem EE.inX' {i j : Nat} (hne : Nat.beq j i = false) (h : EE Q n D M (.exit j) w) : EE (Exit.inBlock i Q) n D M (.exit j) w := EE.mk fun a F => by
  have : j ≠ i := fun e => by subst e; rw [Nat.beq_refl] at hne; cases hne
  simp only [Exit.inBlock, if_neg this]; exact h.h a F
theorem EE.inR {i : Nat} (h : EE Q n D M .ret w) : EE (Exit.inBlock i Q) n D M .ret w := EE.mk fun a F => h.h a F
/-! Returns. -/
def resM (M : Slots) : List ResultVar → Option (List Value)
  | [] => some []
  | .tmp t :: l => match M t, resM M l with
    | some v, some vs => some (v :: vs)
    | _, _ => none
  | .cell _ _ :: _ => none
def resV : List Value → Value
  | [v] => v
  | vs => .tuple vs.toArray
theorem results_run {fn : Func} {a : Act} {vs : List Value} (F : Fr n D M a) (h : resM M fn.results.toList = some vs) (h3 : vs.length ≤ 3) : (results fn a.tmps).run P w = .ok (resV vs) w := by
  obtain ⟨l, hl⟩ : ∃ l, fn.results = l.toArray := ⟨fn.results.toList, by simp⟩
  rw [hl] at h
  simp only [List.toList_toArray] at h
  have key : ∀ (l : List ResultVar) (vs : List Value), resM M l = some vs → ∃ ts : List Tmp, l = ts.map .tmp ∧ vs = ts.map fun t => a.tmps.getD t undef := by
    intro l
    induction l with
    | nil => intro vs h; cases h; exact ⟨[], rfl, rfl⟩
    | cons x l ih =>
      intro vs h
      cases x with
      | cell => cases h
      | tmp t =>
        simp only [resM] at h
        cases ht : M t with
        | none => rw [ht] at h; cases h
        | some v =>
          cases hr : resM M l with
          | none => rw [ht, hr] at h; cases h
          | some us =>
            rw [ht, hr] at h
            cases h
            obtain ⟨ts, rfl, rfl⟩ := ih us hr
            exact ⟨t :: ts, rfl, by simp [← F.get t v ht]⟩
  obtain ⟨ts, rfl, rfl⟩ := key l vs h
  rw [List.length_map] at h3
  match ts, h3 with
  | [], _ => simp [results, hl, resV]
  | [t], _ => exact results_tmp hl _ _ _
  | [t, u], _ => exact results_tmp2 hl _ _ _
  | [t, u, x], _ => exact results_tmp3 hl _ _ _
end
end Go.Proofs.Ytajfffoaebjnlaa
/- What single operations do, for the walk by explicit steps. Over any program. -/
namespace Go.Proofs.Ytajfffoaebjnlaa
set_option linter.unusedVariables false
set_option linter.unusedSimpArgs false
open Go.RowKit Go.Shelf

/-- A function's contract from its body's walk. -/
theorem X.fn {P : Program} {f : FuncId} {fn : Func} {c : Code} {args : Array Value} {w : World} {R : Ending → World → Prop} {n : Nat} (hf : P.funcs[f]? = some fn) (hb : fn.body = some c) (hn : fn.ntmps = n) (ha : Nat.ble args.size n = true)
    (h : CC none P (bodyPost P fn R) n [] (argM args) c w) : Calls P f args w R := by
  subst hn
  exact (callsIn_wide (n := 3)).1 (callsIn_of_wp hf hb trivial (h.h _ (Fr.start args _ (by simpa using ha))) rfl)
theorem EE.ret {P : Program} {fn : Func} {R : Ending → World → Prop} {n : Nat} {M : Slots} {w : World} (vs : List Value) (h : resM M fn.results.toList = some vs) (h3 : Nat.ble vs.length 3 = true) (hR : R (.returned (resV vs)) w) : EE (bodyPost P fn R) n [] M .ret w := EE.mk fun _ F => ⟨F.defers, _, results_run F h (by simpa using h3), hR⟩
theorem EE.end {P : Program} {fn : Func} {R : Ending → World → Prop} {n : Nat} {M : Slots} {w : World} (vs : List Value) (h : resM M fn.results.toList = some vs) (h3 : Nat.ble vs.length 3 = true) (hR : R (.returned (resV vs)) w) : EE (bodyPost P fn R) n [] M .normal w := EE.mk fun _ F => ⟨F.defers, _, results_run F h (by simpa using h3), hR⟩
/-- A result that lies in a variable's cells. -/
theorem EE.retC {P : Program} {fn : Func} {R : Ending → World → Prop} {n : Nat} {M : Slots} {w : World} {s : Tmp} {t : TypeId} {p : Addr} {v : Value} (h : fn.results = #[.cell s t]) (hs : M s = some (.pointer (some p))) (hv : (loadVar t p).run P w = .ok v w) (hR : R (.returned v) w) : EE (bodyPost P fn R) n [] M .ret w := EE.mk fun a F => ⟨F.defers, v, by
    unfold results
    rw [h]
    have hg := F.get s _ hs
    simp only [List.mapM_toArray, List.mapM_cons, List.mapM_nil, hg, asAddr]
    simp only [bind_assoc, pure_bind, Sem.run_bind, Sem.run_map, Sem.run_pure, hv, Result.andThen_ok]
    rfl, hR⟩

def oneB (P : Program) (t : TypeId) : Bool := match P.underlying t with
  | some (.struct _) | some (.array _ _) => false
  | some _ => true
  | none => false
def aggB (P : Program) (t : TypeId) : Bool := match P.underlying t with
  | some (.struct _) | some (.array _ _) => true
  | _ => false
def szB (P : Program) (t : TypeId) : Option Nat := (P.info? t).map (·.size)
def zeroB (P : Program) (t : TypeId) : Option Value := (P.info? t).bind (·.zero)
def fldB (P : Program) (t i : Nat) : Option (Nat × Bool) := match P.underlying t with
  | some (.struct fs) => (fs[i]?).map fun f => (f.offset, (P.info? f.type).map (·.size) != some 0 && (P.info? f.type).isSome)
  | _ => none
def entB (P : Program) (f : FuncId) : Bool := match P.funcs[f]? with
  | some fn => fn.body.isSome && !(fn.name == "runtime.NumGoroutine")
  | none => false
def evsM (M : Slots) : List Operand → Option (List Value)
  | [] => some []
  | x :: l => match evM M x, evsM M l with
    | some v, some vs => some (v :: vs)
    | _, _ => none

section
variable {P : Program} {w w' : World} {o : Oper} {n : Nat} {D : List Deferred} {M : Slots} {v vx vy : Value} {x y : Operand} {t : TypeId}

theorem R.move (ho : o.op = .move x) (hx : evM M x = some v) : Runs P n D M o w (.value v) w := fun a F => by
  unfold execOp; simp only [ho, F.ev hx, Sem.run_pure]
theorem R.assign (ho : o.op = .assign x) (hx : evM M x = some v) : Runs P n D M o w (.value v) w := fun a F => by
  unfold execOp; simp only [ho, F.ev hx, Sem.run_pure]
theorem R.load (ho : o.op = .load t x) (hx : evM M x = some vx) (hr : (Instr.loadAt t vx).run P w = .ok v w') : Runs P n D M o w (.value v) w' := fun a F => by
  unfold execOp; simp only [ho, F.ev hx, Sem.run_bind, Sem.run_pure, hr, Result.andThen_ok]
theorem R.store (ho : o.op = .store t x y) (hx : evM M x = some vx) (hy : evM M y = some vy) (hr : (Instr.storeAt t vx vy).run P w = .ok () w') : Runs P n D M o w .skip w' := fun a F => by
  unfold execOp; simp only [ho, F.ev hx, F.ev hy, Sem.run_bind, Sem.run_pure, hr, Result.andThen_ok]
theorem R.box (ho : o.op = .box t x) (hx : evM M x = some vx) (hr : (Instr.box t vx).run P w = .ok v w') : Runs P n D M o w (.value v) w' := fun a F => by
  unfold execOp; simp only [ho, F.ev hx, Sem.run_bind, Sem.run_pure, hr, Result.andThen_ok]
theorem R.alloc (ho : o.op = .alloc t) (hr : (Instr.alloc t true (.tuple #[])).run P w = .ok v w') : Runs P n D M o w (.value v) w' := fun a F => by
  unfold execOp; simp only [ho, Sem.run_bind, Sem.run_pure, hr, Result.andThen_ok]
theorem R.nil {p : Addr} (ho : o.op = .nilCheck x) (hx : evM M x = some (.pointer (some p))) : Runs P n D M o w (.value (.pointer (some p))) w := fun a F => by
  unfold execOp; simp only [ho, F.ev hx]; rfl
theorem R.field {i : Nat} (ho : o.op = .fieldAddr t x i) (hx : evM M x = some vx) (hr : (Instr.fieldAt t vx i).run P w = .ok v w') : Runs P n D M o w (.value v) w' := fun a F => by
  unfold execOp; simp only [ho, F.ev hx, Sem.run_bind, Sem.run_pure, hr, Result.andThen_ok]
theorem R.index (ho : o.op = .indexAddr t x y) (hx : evM M x = some vx) (hy : evM M y = some vy) (hr : (Instr.indexAt t vx vy).run P w = .ok v w') : Runs P n D M o w (.value v) w' := fun a F => by
  unfold execOp; simp only [ho, F.ev hx, F.ev hy, Sem.run_bind, Sem.run_pure, hr, Result.andThen_ok]
theorem R.indexV (ho : o.op = .index t x y) (hx : evM M x = some vx) (hy : evM M y = some vy) (hr : (Instr.index t vx vy).run P w = .ok v w') : Runs P n D M o w (.value v) w' := fun a F => by
  unfold execOp; simp only [ho, F.ev hx, F.ev hy, Sem.run_bind, Sem.run_pure, hr, Result.andThen_ok]
theorem R.bin {op : BinOp} {u : TypeId} (ho : o.op = .binOp op t x y u) (hx : evM M x = some vx) (hy : evM M y = some vy) (hr : ((do eqGuard op t x y vx vy; binOp op t vx vy) : Sem Value).run P w = .ok v w') : Runs P n D M o w (.value v) w' := fun a F => by
  unfold execOp; simp only [ho, F.ev hx, F.ev hy, Sem.run_bind, Sem.run_pure] at hr ⊢; rw [hr]; rfl
theorem R.un {op : UnOp} (ho : o.op = .unOp op t x) (hx : evM M x = some vx) (hr : (Op.unary op vx).run P w = .ok v w') : Runs P n D M o w (.value v) w' := fun a F => by
  unfold execOp; simp only [ho, F.ev hx, Sem.run_bind, Sem.run_pure, hr, Result.andThen_ok]
theorem R.conv {u : TypeId} (ho : o.op = .convert t u x) (hx : evM M x = some vx) (hr : (convert t u vx).run P w = .ok v w') : Runs P n D M o w (.value v) w' := fun a F => by
  unfold execOp; simp only [ho, F.ev hx, Sem.run_bind, Sem.run_pure, hr, Result.andThen_ok]
theorem R.make (ho : o.op = .makeSlice t x y) (hx : evM M x = some vx) (hy : evM M y = some vy) (hr : (Instr.makeSlice t vx vy).run P w = .ok v w') : Runs P n D M o w (.value v) w' := fun a F => by
  unfold execOp; simp only [ho, F.ev hx, F.ev hy, Sem.run_bind, Sem.run_pure, hr, Result.andThen_ok]
theorem R.extract {i : Nat} {vs : Array Value} (ho : o.op = .extract x i) (hx : evM M x = some (.tuple vs)) (hv : vs[i]? = some v) : Runs P n D M o w (.value v) w := fun a F => by
  unfold execOp; simp only [ho, F.ev hx, Instr.extract, hv, Sem.run_bind, Sem.run_pure, Result.andThen_ok]
theorem R.pick {c : Operand} {b : Bool} (ho : o.op = .pick c x y) (hc : evM M c = some (.bool b)) (hv : evM M (bif b then x else y) = some v) : Runs P n D M o w (.value v) w := fun a F => by
  have := F.ev hv
  unfold execOp
  cases b
  · simp only [cond_false] at this
    simp only [ho, F.ev hc, asBool, Sem.run_bind, Sem.run_pure, Result.andThen_ok, this, Bool.false_eq_true, if_false]
  · simp only [cond_true] at this
    simp only [ho, F.ev hc, asBool, Sem.run_bind, Sem.run_pure, Result.andThen_ok, this, if_true]
def evo (M : Slots) : Option Operand → Option (Option Value)
  | none => some none
  | some x => (evM M x).map some
theorem evo_map {a : Act} (F : Fr n D M a) {l : Option Operand} {lv : Option Value} (h : evo M l = some lv) : l.map a.eval = lv := by
  cases l with
  | none => cases h; rfl
  | some x =>
    simp only [evo] at h
    cases hx : evM M x with
    | none => rw [hx] at h; cases h
    | some u => rw [hx] at h; cases h; simp [F.ev hx]
theorem R.slice {l h m : Option Operand} {lv hv mv : Option Value} (ho : o.op = .slice t x l h m) (hx : evM M x = some vx) (h1 : evo M l = some lv) (h2 : evo M h = some hv) (h3 : evo M m = some mv) (hr : (Instr.sliceAt t vx lv hv mv).run P w = .ok v w') : Runs P n D M o w (.value v) w' := fun a F => by
  unfold execOp; simp only [ho, F.ev hx, evo_map F h1, evo_map F h2, evo_map F h3, Sem.run_bind, Sem.run_pure, hr, Result.andThen_ok]
theorem evs_map {a : Act} (F : Fr n D M a) : ∀ {l : List Operand} {vs : List Value}, evsM M l = some vs → l.map a.eval = vs
  | [], vs, h => by cases h; rfl
  | x :: l, vs, h => by
    simp only [evsM] at h
    cases hx : evM M x with
    | none => rw [hx] at h; cases h
    | some u =>
      cases hr : evsM M l with
      | none => rw [hx, hr] at h; cases h
      | some us => rw [hx, hr] at h; cases h; simp [F.ev hx, evs_map F hr]
theorem evs_mapA {a : Act} (F : Fr n D M a) {xs : Array Operand} {vs : List Value} (h : evsM M xs.toList = some vs) : xs.map a.eval = vs.toArray := by
  rw [← evs_map F h]; cases xs; simp
theorem ent_of {f : FuncId} (h : entB P f = true) (args : Array Value) (w : World) : (callFunc f args).run P w = .ok (.enter f args) w := by
  unfold entB at h
  cases hf : P.funcs[f]? with
  | none => rw [hf] at h; cases h
  | some fn =>
    rw [hf] at h
    simp only [Bool.and_eq_true] at h
    cases hb : fn.body with
    | none => rw [hb] at h; simp at h
    | some c => exact enters_of hf (by simpa using h.2) hb args w
/-- A call of a named function. -/
theorem R.call {f : FuncId} {xs : Array Operand} {ts : Array TypeId} {vs : List Value} (ho : o.op = .call { callee := .value (.func f), args := xs, argTypes := ts }) (hx : evsM M xs.toList = some vs) (eg : entB P f = true) : Runs P n D M o w (.enter f vs.toArray) w := fun a F => by
  have hm := evs_mapA F hx
  unfold execOp
  simp only [ho]
  have hf : a.eval (.func f) = .func (.func f) #[] #[] := rfl
  simp only [resolve, hf, hm, Deferred.ofValue, invoke, Sem.run_bind, Sem.run_pure, Result.andThen_ok, Array.empty_append, Array.append_empty]
  exact ent_of eg _ _
/-- A call of a function's value. -/
theorem R.callV {f : FuncId} {xs : Array Operand} {ts : Array TypeId} {vs : List Value} {cap : Array Value} (ho : o.op = .call { callee := .value x, args := xs, argTypes := ts }) (hf : evM M x = some (.func (.func f) #[] cap)) (hx : evsM M xs.toList = some vs) (eg : entB P f = true) : Runs P n D M o w (.enter f (vs.toArray ++ cap)) w := fun a F => by
  have hm := evs_mapA F hx
  unfold execOp
  simp only [ho]
  simp only [resolve, F.ev hf, hm, Deferred.ofValue, invoke, Sem.run_bind, Sem.run_pure, Result.andThen_ok, Array.empty_append]
  exact ent_of eg _ _
theorem R.builtin {b : Builtin} {xs : Array Operand} {ts : Array TypeId} {vs : List Value} (ho : o.op = .call { callee := .builtin b, args := xs, argTypes := ts }) (hx : evsM M xs.toList = some vs) {z : Next} (hr : ∀ cs, (builtin b ts o.type cs vs.toArray).run P w = .ok z w') : Runs P n D M o w z w' := fun a F => by
  have hm := evs_mapA F hx
  unfold execOp
  simp only [ho, resolve, invoke, hm, Sem.run_bind, Sem.run_pure, Result.andThen_ok]
  exact hr _
theorem R.func {fn : Fn} {f1 f2 : Array Operand} {v1 v2 : List Value} (ho : o.op = .makeFunc fn f1 f2) (h1 : evsM M f1.toList = some v1) (h2 : evsM M f2.toList = some v2) : Runs P n D M o w (.value (.func fn v1.toArray v2.toArray)) w := fun a F => by
  unfold execOp
  simp only [ho, evs_mapA F h1, evs_mapA F h2, Instr.makeFunc, Sem.run_bind, Sem.run_pure, Result.andThen_ok]
theorem R.build {ps : Array (Nat × Operand)} {vs : List (Nat × Value)} (ho : o.op = .build t ps) (hx : ∀ a, Fr n D M a → (ps.map fun (i, x) => (i, a.eval x)) = vs.toArray) (hr : (Instr.build t vs.toArray).run P w = .ok v w') : Runs P n D M o w (.value v) w' := fun a F => by
  unfold execOp; simp only [ho, hx a F, Sem.run_bind, Sem.run_pure, hr, Result.andThen_ok]
def evpM (M : Slots) : List (Nat × Operand) → Option (List (Nat × Value))
  | [] => some []
  | (i, x) :: l => match evM M x, evpM M l with
    | some v, some vs => some ((i, v) :: vs)
    | _, _ => none
theorem evp_map {a : Act} (F : Fr n D M a) : ∀ {l : List (Nat × Operand)} {vs : List (Nat × Value)}, evpM M l = some vs → (l.map fun (i, x) => (i, a.eval x)) = vs
  | [], vs, h => by cases h; rfl
  | (i, x) :: l, vs, h => by
    simp only [evpM] at h
    cases hx : evM M x with
    | none => rw [hx] at h; cases h
    | some u =>
      cases hr : evpM M l with
      | none => rw [hx, hr] at h; cases h
      | some us => rw [hx, hr] at h; cases h; simp [F.ev hx, evp_map F hr]
theorem R.build' {ps : Array (Nat × Operand)} {vs : List (Nat × Value)} (ho : o.op = .build t ps) (hx : evpM M ps.toList = some vs) (hr : (Instr.build t vs.toArray).run P w = .ok v w') : Runs P n D M o w (.value v) w' :=
  R.build ho (fun a F => by rw [← evp_map F hx]; cases ps; simp) hr
theorem R.buildSlice {ps : Array (Nat × Operand)} {k : Nat} {vs : List (Nat × Value)} (ho : o.op = .buildSlice t k ps) (hx : evpM M ps.toList = some vs) (hr : (Instr.buildSlice t k vs.toArray).run P w = .ok v w') : Runs P n D M o w (.value v) w' := fun a F => by
  have : (ps.map fun (i, x) => (i, a.eval x)) = vs.toArray := by rw [← evp_map F hx]; cases ps; simp
  unfold execOp; simp only [ho, this, Sem.run_bind, Sem.run_pure, hr, Result.andThen_ok]
end

theorem grown_set (w : World) (p : Addr) (v : Value) : w.grownBy (w.setCell p v) (some p.block) := ⟨rfl, rfl, rfl, by simp [World.setCell], fun k _ hne => Below.heap_setCell _ _ _ _ (by simpa using hne)⟩
/-! The instructions. -/
section
variable {P : Program} {w w' : World} {t : TypeId} {v : Value} {p : Addr}

theorem isAgg_one (h : oneB P t = true) (w : World) : (isAgg t).run P w = .ok false w := by
  unfold oneB at h
  cases hu : P.underlying t with
  | none => rw [hu] at h; cases h
  | some u =>
    rw [hu] at h
    unfold isAgg
    simp only [Sem.run_bind, run_underlying hu, Result.andThen_ok]
    cases u <;> first | rfl | cases h
theorem isAgg_agg (h : aggB P t = true) (w : World) : (isAgg t).run P w = .ok true w := by
  unfold aggB at h
  cases hu : P.underlying t with
  | none => rw [hu] at h; cases h
  | some u =>
    rw [hu] at h
    unfold isAgg
    simp only [Sem.run_bind, run_underlying hu, Result.andThen_ok]
    cases u <;> first | rfl | cases h
theorem size_of_sz {k : Nat} (h : szB P t = some k) (w : World) : (sizeOf t).run P w = .ok k w := by
  unfold szB at h
  cases hi : P.info? t with
  | none => rw [hi] at h; cases h
  | some i => rw [hi] at h; cases h; simp [sizeOf, typeInfo, hi]
theorem zero_of (h : zeroB P t = some v) (w : World) : (zeroValue t).run P w = .ok v w := by
  unfold zeroB at h
  cases hi : P.info? t with
  | none => rw [hi] at h; cases h
  | some i => rw [hi] at h; simp at h; simp [zeroValue, typeInfo, hi, h]

theorem lv1 (hT : oneB P t = true) (hc : w.cell? p = some v) : (loadVar t p).run P w = .ok v w := by
  unfold loadVar
  simp [isAgg_one hT, hc]
theorem I.ld1 (hT : oneB P t = true) (hc : w.cell? p = some v) : (Instr.loadAt t (.pointer (some p))).run P w = .ok v w := by
  unfold Instr.loadAt Instr.sureAddr
  simp [lv1 hT hc]
/-- These cells lie there, one beside the other. -/
def Cells (w : World) (p : Addr) (vs : List Value) : Prop := ∀ j v, vs[j]? = some v → w.cell? (p.add j) = some v
theorem lvN {vs : List Value} (hT : aggB P t = true) (hz : szB P t = some vs.length) (hc : Cells w p vs) : (loadVar t p).run P w = .ok (.agg vs.toArray) w := by
  have hl := run_loadCells_list (P := P) (w := w) p vs hc
  unfold loadVar
  simp [isAgg_agg hT, size_of_sz hz, hl]
theorem I.ldN {vs : List Value} (hT : aggB P t = true) (hz : szB P t = some vs.length) (hc : Cells w p vs) : (Instr.loadAt t (.pointer (some p))).run P w = .ok (.agg vs.toArray) w := by
  unfold Instr.loadAt Instr.sureAddr
  simp [lvN hT hz hc]
theorem add_plain (b off j : Nat) : (⟨b, off, none⟩ : Addr).add j = ⟨b, off + j, none⟩ := Addr.add_lit b off j
theorem RowL.cells {w : World} {g e off : Nat} {xs vs : List Value} (h : RowL w g e xs) (hv : (xs.drop off).take vs.length = vs) : Cells w ⟨g, off, none⟩ vs := fun j v hj => by
  rw [add_plain]
  refine h.cell ?_
  rw [← hv] at hj
  rw [List.getElem?_take] at hj
  split at hj
  · rw [List.getElem?_drop] at hj; exact hj
  · cases hj

theorem I.st1 {u : Value} (hz : szB P t = some 1) (hc : w.cell? p = some u) (hf : w.frozen? p = false) (h1 : v.oneCell' = true) (hcs : v.cells = #[v]) : (Instr.storeAt t (.pointer (some p)) v).run P w = .ok () (w.setCell p v) := by
  unfold Instr.storeAt Instr.sureAddr storeVar
  have h0 : p.add 0 = p := by simp [Addr.add]
  have hs : (store p v).run P w = .ok () (w.setCell p v) := by rw [run_store P w p v .plain h1]; simp [hc, hf]
  simp [size_of_sz hz, hcs, storeCells, h0, hs, Sem.run_bind]
theorem setRow_grown (w : World) (g : Nat) (cs : Array Value) : w.grownBy (w.setRow g cs) (some g) := ⟨rfl, rfl, rfl, by simp, fun k _ hne => setRow_other w g k cs (by simpa using hne)⟩
/-- A whole variable, or a part, of a row that is known. -/
theorem I.stN {g off e : Nat} {xs vs : List Value} (hz : szB P t = some vs.length) (hr : RowL w g e xs) (hl : off + vs.length ≤ xs.length) (h1 : ∀ u ∈ vs, u.oneCell' = true) :
    ∃ w', (Instr.storeAt t (.pointer (some ⟨g, off, none⟩)) (.agg vs.toArray)).run P w = .ok () w' ∧ RowL w' g e (xs.take off ++ vs ++ xs.drop (off + vs.length)) ∧ w.grownBy w' (some g) ∧ w'.heap.size = w.heap.size := by
  have hs := run_storeCells_at (P := P) g off e vs 0 xs.toArray w hr (by simpa using hl) h1
  simp only [Nat.add_zero] at hs
  refine ⟨w.setRow g (xs.take off ++ vs ++ xs.drop (off + vs.length)).toArray, ?_, setRow_heap w g xs.toArray _ e (0, 0) hr, setRow_grown w g _, by simp⟩
  unfold Instr.storeAt Instr.sureAddr storeVar
  simp [size_of_sz hz, Value.cells, hs, Sem.run_bind]
/-- One cell of a row that is known. -/
theorem I.st1R {g off e : Nat} {xs : List Value} (hz : szB P t = some 1) (hr : RowL w g e xs) (hl : off < xs.length) (h1 : v.oneCell' = true) (hcs : v.cells = #[v]) : (Instr.storeAt t (.pointer (some ⟨g, off, none⟩)) v).run P w = .ok () (w.setCell ⟨g, off, none⟩ v) :=
  I.st1 hz (hr.cell (u := xs[off]) (by simp [hl])) (hr.frozen off) h1 hcs
theorem I.fld {i off g o : Nat} (h : fldB P t i = some (off, true)) : (Instr.fieldAt t (.pointer (some ⟨g, o, none⟩)) i).run P w = .ok (.pointer (some ⟨g, o + off, none⟩)) w := by
  unfold fldB at h
  cases hu : P.underlying t with
  | none => rw [hu] at h; cases h
  | some u =>
    rw [hu] at h
    cases u <;> try (cases h; done)
    rename_i fs
    simp only at h
    cases hf : fs[i]? with
    | none => rw [hf] at h; cases h
    | some f =>
      rw [hf] at h
      simp only [Option.map_some, Option.some.injEq, Prod.mk.injEq, Bool.and_eq_true] at h
      obtain ⟨rfl, h1, h2⟩ := h
      cases hi : P.info? f.type with
      | none => rw [hi] at h2; cases h2
      | some ti =>
        rw [hi] at h1
        have hne : ti.size ≠ 0 := by simpa using h1
        unfold Instr.fieldAt Instr.sureAddr fieldPlace
        simp [run_underlying hu, hf, sizeOf, typeInfo, hi, hne, add_plain]

def slB (P : Program) (t : TypeId) : Option (TypeId × Nat) := match P.underlying t with
  | some (.slice e) => (szB P e).map fun k => (e, k)
  | _ => none
def arB (P : Program) (t : TypeId) : Option (Nat × Nat) := match P.underlying t with
  | some (.array n e) => (szB P e).map fun k => (n, k)
  | _ => none
theorem sl_of {e k : Nat} (h : slB P t = some (e, k)) : P.underlying t = some (.slice e) ∧ szB P e = some k := by
  unfold slB at h
  cases hu : P.underlying t with
  | none => rw [hu] at h; cases h
  | some u =>
    rw [hu] at h
    cases u <;> try (cases h; done)
    rename_i f
    simp only at h
    cases hz : szB P f with
    | none => rw [hz] at h; cases h
    | some m => rw [hz] at h; cases h; exact ⟨rfl, hz⟩
theorem ar_of {n k : Nat} (h : arB P t = some (n, k)) : ∃ e, P.underlying t = some (.array n e) ∧ szB P e = some k := by
  unfold arB at h
  cases hu : P.underlying t with
  | none => rw [hu] at h; cases h
  | some u =>
    rw [hu] at h
    cases u <;> try (cases h; done)
    rename_i m f
    simp only at h
    cases hz : szB P f with
    | none => rw [hz] at h; cases h
    | some m => rw [hz] at h; cases h; exact ⟨f, rfl, hz⟩
/-- An element of a slice. -/
theorem I.ixS {e k b off len cap i : Nat} (h : slB P t = some (e, k)) (hi : i < len) : (Instr.indexAt t (.slice (some ⟨b, off, none⟩) len cap) (.int .i64 (i : Int))).run P w = .ok (.pointer (some ⟨b, off + i * k, none⟩)) w := by
  obtain ⟨hu, hz⟩ := sl_of h
  have h1 : (i : Int) < (len : Int) := by omega
  unfold Instr.indexAt
  simp [asIntOf, run_underlying hu, h1, size_of_sz hz, add_plain]
  exact fun hh => absurd hi (by omega)
theorem I.ixS1 {e b off len cap i : Nat} (h : slB P t = some (e, 1)) (hi : i < len) : (Instr.indexAt t (.slice (some ⟨b, off, none⟩) len cap) (.int .i64 (i : Int))).run P w = .ok (.pointer (some ⟨b, off + i, none⟩)) w := by
  have := I.ixS (P := P) (w := w) (b := b) (off := off) (cap := cap) h hi
  rwa [Nat.mul_one] at this
/-- An element of an array variable. -/
theorem I.ixA {n k b off i : Nat} (h : arB P t = some (n, k)) (hi : i < n) : (Instr.indexAt t (.pointer (some ⟨b, off, none⟩)) (.int .i64 (i : Int))).run P w = .ok (.pointer (some ⟨b, off + i * k, none⟩)) w := by
  obtain ⟨e, hu, hz⟩ := ar_of h
  have h1 : (i : Int) < (n : Int) := by omega
  unfold Instr.indexAt Instr.sureAddr
  simp [asIntOf, run_underlying hu, h1, size_of_sz hz, add_plain]
  exact fun hh => absurd hi (by omega)
theorem I.ixA1 {n b off i : Nat} (h : arB P t = some (n, 1)) (hi : i < n) : (Instr.indexAt t (.pointer (some ⟨b, off, none⟩)) (.int .i64 (i : Int))).run P w = .ok (.pointer (some ⟨b, off + i, none⟩)) w := by
  have := I.ixA (P := P) (w := w) (b := b) (off := off) h hi
  rwa [Nat.mul_one] at this
/-- A whole array as a slice. -/
theorem I.slA {n k b off : Nat} (h : arB P t = some (n, k)) : (Instr.sliceAt t (.pointer (some ⟨b, off, none⟩)) none none none).run P w = .ok (.slice (some ⟨b, off, none⟩) n n) w := by
  obtain ⟨e, hu, hz⟩ := ar_of h
  unfold Instr.sliceAt Instr.sureAddr Instr.sliceBounds
  simp [run_underlying hu, size_of_sz hz, Addr.add]
theorem slAt_sl {e k : Nat} {v l : Value} {lo hi mx : Option Value} (h : slB P t = some (e, k)) (hr : (Instr.slice t v lo hi mx).run P w = .ok l w') : (Instr.sliceAt t v lo hi mx).run P w = .ok l w' := by
  obtain ⟨hu, _⟩ := sl_of h
  unfold Instr.sliceAt
  simp only [Sem.run_bind, run_underlying hu, Result.andThen_ok]
  exact hr

theorem run_box {cs : List Value} (h : v.cells = cs.toArray) : (Instr.box t v).run P w = .ok (.pointer (some ⟨w.heap.size, 0, none⟩)) (w.alloc (.cells cs.toArray t)) := by
  unfold Instr.box newVar newRow
  rw [h]
  simp [Sem.run_bind, run_newObj_alloc]
theorem run_alloc {cs : List Value} (hz : zeroB P t = some v) (h : v.cells = cs.toArray) : (Instr.alloc t true (.tuple #[])).run P w = .ok (.pointer (some ⟨w.heap.size, 0, none⟩)) (w.alloc (.cells cs.toArray t)) := by
  unfold Instr.alloc newVar newRow
  simp [zero_of hz, h, Sem.run_bind, run_newObj_alloc]

/-! Integers. -/
theorem I.addI {a b : Int} {x y : Operand} (h : -9223372036854775808 ≤ a + b ∧ a + b ≤ 9223372036854775807) : ((do eqGuard .add t x y (.int .i64 a) (.int .i64 b); binOp .add t (.int .i64 a) (.int .i64 b)) : Sem Value).run P w = .ok (.int .i64 (a + b)) w := by
  simp [eqGuard, binOp, Op.intArith, IntWalk.i64_in _ h]
theorem I.subI {a b : Int} {x y : Operand} (h : -9223372036854775808 ≤ a - b ∧ a - b ≤ 9223372036854775807) : ((do eqGuard .sub t x y (.int .i64 a) (.int .i64 b); binOp .sub t (.int .i64 a) (.int .i64 b)) : Sem Value).run P w = .ok (.int .i64 (a - b)) w := by
  simp [eqGuard, binOp, Op.intArith, IntWalk.i64_in _ h]
theorem I.mulI {a b : Int} {x y : Operand} (h : -9223372036854775808 ≤ a * b ∧ a * b ≤ 9223372036854775807) : ((do eqGuard .mul t x y (.int .i64 a) (.int .i64 b); binOp .mul t (.int .i64 a) (.int .i64 b)) : Sem Value).run P w = .ok (.int .i64 (a * b)) w := by
  simp [eqGuard, binOp, Op.intArith, IntWalk.i64_in _ h]
theorem I.addN {a b : Nat} {x y : Operand} (h : a + b ≤ 9223372036854775807) : ((do eqGuard .add t x y (.int .i64 (a : Int)) (.int .i64 (b : Int)); binOp .add t (.int .i64 (a : Int)) (.int .i64 (b : Int))) : Sem Value).run P w = .ok (.int .i64 ((a + b : Nat) : Int)) w := by
  rw [I.addI (by omega)]; simp
theorem I.subN {a b : Nat} {x y : Operand} (h : b ≤ a) (h2 : a ≤ 9223372036854775807) : ((do eqGuard .sub t x y (.int .i64 (a : Int)) (.int .i64 (b : Int)); binOp .sub t (.int .i64 (a : Int)) (.int .i64 (b : Int))) : Sem Value).run P w = .ok (.int .i64 ((a - b : Nat) : Int)) w := by
  rw [I.subI (by omega), Int.ofNat_sub h]
theorem I.mulN {a b : Nat} {x y : Operand} (h : a * b ≤ 9223372036854775807) : ((do eqGuard .mul t x y (.int .i64 (a : Int)) (.int .i64 (b : Int)); binOp .mul t (.int .i64 (a : Int)) (.int .i64 (b : Int))) : Sem Value).run P w = .ok (.int .i64 ((a * b : Nat) : Int)) w := by
  have e : ((a : Int) * (b : Int)) = ((a * b : Nat) : Int) := by simp
  rw [I.mulI (by rw [e]; omega), e]
theorem I.quoN {a b : Nat} {x y : Operand} (h : 0 < b) (h2 : a ≤ 9223372036854775807) : ((do eqGuard .quo t x y (.int .i64 (a : Int)) (.int .i64 (b : Int)); binOp .quo t (.int .i64 (a : Int)) (.int .i64 (b : Int))) : Sem Value).run P w = .ok (.int .i64 ((a / b : Nat) : Int)) w := by
  have e : ((a : Int).tdiv (b : Int)) = ((a / b : Nat) : Int) := by rw [Int.tdiv_eq_ediv_of_nonneg (by omega)]; simp
  have hle : a / b ≤ a := Nat.div_le_self _ _
  obtain ⟨q, hq⟩ : ∃ q, a / b = q := ⟨_, rfl⟩
  rw [hq] at e hle ⊢
  have hb : b ≠ 0 := by omega
  simp [eqGuard, binOp, Op.intDiv, hb, e, IntWalk.i64_in (q : Int) (by omega)]
theorem I.remN {a b : Nat} {x y : Operand} (h : 0 < b) : ((do eqGuard .rem t x y (.int .i64 (a : Int)) (.int .i64 (b : Int)); binOp .rem t (.int .i64 (a : Int)) (.int .i64 (b : Int))) : Sem Value).run P w = .ok (.int .i64 ((a % b : Nat) : Int)) w := by
  have e : ((a : Int).tmod (b : Int)) = ((a % b : Nat) : Int) := by rw [Int.tmod_eq_emod_of_nonneg (by omega)]; simp
  obtain ⟨q, hq⟩ : ∃ q, a % b = q := ⟨_, rfl⟩
  rw [hq] at e ⊢
  have hb : b ≠ 0 := by omega
  simp [eqGuard, binOp, Op.intDiv, hb, e]
section
variable {k : IntKind} {a b : Int} {x y : Operand}
theorem I.ltT (h : a < b) : ((do eqGuard .lss t x y (.int k a) (.int k b); binOp .lss t (.int k a) (.int k b)) : Sem Value).run P w = .ok (.bool true) w := by simp [eqGuard, binOp, Op.intCmp, h]
theorem I.ltF (h : b ≤ a) : ((do eqGuard .lss t x y (.int k a) (.int k b); binOp .lss t (.int k a) (.int k b)) : Sem Value).run P w = .ok (.bool false) w := by simp [eqGuard, binOp, Op.intCmp, h]
theorem I.leT (h : a ≤ b) : ((do eqGuard .leq t x y (.int k a) (.int k b); binOp .leq t (.int k a) (.int k b)) : Sem Value).run P w = .ok (.bool true) w := by simp [eqGuard, binOp, Op.intCmp, h]
theorem I.leF (h : b < a) : ((do eqGuard .leq t x y (.int k a) (.int k b); binOp .leq t (.int k a) (.int k b)) : Sem Value).run P w = .ok (.bool false) w := by simp [eqGuard, binOp, Op.intCmp, h]
theorem I.gtT (h : b < a) : ((do eqGuard .gtr t x y (.int k a) (.int k b); binOp .gtr t (.int k a) (.int k b)) : Sem Value).run P w = .ok (.bool true) w := by simp [eqGuard, binOp, Op.intCmp, h]
theorem I.gtF (h : a ≤ b) : ((do eqGuard .gtr t x y (.int k a) (.int k b); binOp .gtr t (.int k a) (.int k b)) : Sem Value).run P w = .ok (.bool false) w := by simp [eqGuard, binOp, Op.intCmp, h]
theorem I.geT (h : b ≤ a) : ((do eqGuard .geq t x y (.int k a) (.int k b); binOp .geq t (.int k a) (.int k b)) : Sem Value).run P w = .ok (.bool true) w := by simp [eqGuard, binOp, Op.intCmp, h]
theorem I.geF (h : a < b) : ((do eqGuard .geq t x y (.int k a) (.int k b); binOp .geq t (.int k a) (.int k b)) : Sem Value).run P w = .ok (.bool false) w := by simp [eqGuard, binOp, Op.intCmp, h]
theorem I.eqT (h : a = b) : ((do eqGuard .eql t x y (.int k a) (.int k b); binOp .eql t (.int k a) (.int k b)) : Sem Value).run P w = .ok (.bool true) w := by simp [eqGuard, binOp, Op.intCmp, h]
theorem I.eqF (h : a ≠ b) : ((do eqGuard .eql t x y (.int k a) (.int k b); binOp .eql t (.int k a) (.int k b)) : Sem Value).run P w = .ok (.bool false) w := by simp [eqGuard, binOp, Op.intCmp, h]
theorem I.neT (h : a ≠ b) : ((do eqGuard .neq t x y (.int k a) (.int k b); binOp .neq t (.int k a) (.int k b)) : Sem Value).run P w = .ok (.bool true) w := by simp [eqGuard, binOp, Op.intCmp, h]
theorem I.neF (h : a = b) : ((do eqGuard .neq t x y (.int k a) (.int k b); binOp .neq t (.int k a) (.int k b)) : Sem Value).run P w = .ok (.bool false) w := by simp [eqGuard, binOp, Op.intCmp, h]
end
theorem I.not {b : Bool} : (Op.unary .not (.bool b)).run P w = .ok (.bool (!b)) w := by simp [Op.unary]
def intB (P : Program) (t : TypeId) : Option IntKind := match P.underlying t with
  | some (.int k) => some k
  | _ => none
theorem int_of {k : IntKind} (h : intB P t = some k) : P.underlying t = some (.int k) := by
  unfold intB at h
  cases hu : P.underlying t with
  | none => rw [hu] at h; cases h
  | some u =>
    rw [hu] at h
    cases u <;> try (cases h; done)
    cases h; rfl
theorem I.conv {s : TypeId} {k j : IntKind} {n : Int} (hs : intB P s = some j) (ht : intB P t = some k) : (convert s t (.int j n)).run P w = .ok (.int k (k.wrap n)) w := by
  unfold convert
  simp [run_underlying (int_of hs), run_underlying (int_of ht), Conv.intToInt]
def lenB (P : Program) (t : TypeId) (v : Value) : Option Nat := match P.underlying t, v with
  | some .string, .string s => some s.size
  | some (.array n _), _ => some n
  | some (.slice _), .slice _ n _ => some n
  | _, _ => none
theorem I.len {n : Nat} {ts : Array TypeId} {u : TypeId} {cs : Array Bool} (ht : ts[0]? = some t) (h : lenB P t v = some n) : (builtin .len ts u cs #[v]).run P w = .ok (.value (.int .i64 (n : Int))) w := by
  unfold lenB at h
  have h0 : (#[v] : Array Value)[0]? = some v := rfl
  unfold builtin Builtin.len_
  simp only [ht, h0]
  cases hu : P.underlying t with
  | none => rw [hu] at h; simp at h
  | some d =>
    rw [hu] at h
    cases d <;> first
      | (cases h; done)
      | (simp only [Option.some.injEq] at h; subst h; simp [run_underlying hu, goInt]; done)
      | (cases v <;> first | (cases h; done) | (simp only [Option.some.injEq] at h; subst h; simp [run_underlying hu, goInt]; done))
end

section
variable {P : Program} {w : World} {o : Oper} {n : Nat} {D : List Deferred} {M : Slots} {x y : Operand} {t u : TypeId}
theorem R.addN {a b : Nat} (ho : o.op = .binOp .add t x y u) (hx : evM M x = some (.int .i64 (a : Int))) (hy : evM M y = some (.int .i64 (b : Int))) (h : a + b ≤ 9223372036854775807) : Runs P n D M o w (.value (.int .i64 ((a + b : Nat) : Int))) w := R.bin ho hx hy (I.addN h)
theorem R.mulN {a b : Nat} (ho : o.op = .binOp .mul t x y u) (hx : evM M x = some (.int .i64 (a : Int))) (hy : evM M y = some (.int .i64 (b : Int))) (h : a * b ≤ 9223372036854775807) : Runs P n D M o w (.value (.int .i64 ((a * b : Nat) : Int))) w := R.bin ho hx hy (I.mulN h)
theorem R.subN {a b : Nat} (ho : o.op = .binOp .sub t x y u) (hx : evM M x = some (.int .i64 (a : Int))) (hy : evM M y = some (.int .i64 (b : Int))) (h : b ≤ a) (h2 : a ≤ 9223372036854775807) : Runs P n D M o w (.value (.int .i64 ((a - b : Nat) : Int))) w := R.bin ho hx hy (I.subN h h2)
theorem R.quoN {a b : Nat} (ho : o.op = .binOp .quo t x y u) (hx : evM M x = some (.int .i64 (a : Int))) (hy : evM M y = some (.int .i64 (b : Int))) (h : 0 < b) (h2 : a ≤ 9223372036854775807) : Runs P n D M o w (.value (.int .i64 ((a / b : Nat) : Int))) w := R.bin ho hx hy (I.quoN h h2)
theorem R.remN {a b : Nat} (ho : o.op = .binOp .rem t x y u) (hx : evM M x = some (.int .i64 (a : Int))) (hy : evM M y = some (.int .i64 (b : Int))) (h : 0 < b) : Runs P n D M o w (.value (.int .i64 ((a % b : Nat) : Int))) w := R.bin ho hx hy (I.remN h)
theorem R.addI {a b : Int} (ho : o.op = .binOp .add t x y u) (hx : evM M x = some (.int .i64 a)) (hy : evM M y = some (.int .i64 b)) (h : -9223372036854775808 ≤ a + b ∧ a + b ≤ 9223372036854775807) : Runs P n D M o w (.value (.int .i64 (a + b))) w := R.bin ho hx hy (I.addI h)
theorem R.subI {a b : Int} (ho : o.op = .binOp .sub t x y u) (hx : evM M x = some (.int .i64 a)) (hy : evM M y = some (.int .i64 b)) (h : -9223372036854775808 ≤ a - b ∧ a - b ≤ 9223372036854775807) : Runs P n D M o w (.value (.int .i64 (a - b))) w := R.bin ho hx hy (I.subI h)
theorem R.mulI {a b : Int} (ho : o.op = .binOp .mul t x y u) (hx : evM M x = some (.int .i64 a)) (hy : evM M y = some (.int .i64 b)) (h : -9223372036854775808 ≤ a * b ∧ a * b ≤ 9223372036854775807) : Runs P n D M o w (.value (.int .i64 (a * b))) w := R.bin ho hx hy (I.mulI h)
theorem R.ltT {k : IntKind} {a b : Int} (ho : o.op = .binOp .lss t x y u) (hx : evM M x = some (.int k a)) (hy : evM M y = some (.int k b)) (h : a < b) : Runs P n D M o w (.value (.bool true)) w := R.bin ho hx hy (I.ltT h)
theorem R.ltF {k : IntKind} {a b : Int} (ho : o.op = .binOp .lss t x y u) (hx : evM M x = some (.int k a)) (hy : evM M y = some (.int k b)) (h : b ≤ a) : Runs P n D M o w (.value (.bool false)) w := R.bin ho hx hy (I.ltF h)
theorem R.leT {k : IntKind} {a b : Int} (ho : o.op = .binOp .leq t x y u) (hx : evM M x = some (.int k a)) (hy : evM M y = some (.int k b)) (h : a ≤ b) : Runs P n D M o w (.value (.bool true)) w := R.bin ho hx hy (I.leT h)
theorem R.leF {k : IntKind} {a b : Int} (ho : o.op = .binOp .leq t x y u) (hx : evM M x = some (.int k a)) (hy : evM M y = some (.int k b)) (h : b < a) : Runs P n D M o w (.value (.bool false)) w := R.bin ho hx hy (I.leF h)
theorem R.gtT {k : IntKind} {a b : Int} (ho : o.op = .binOp .gtr t x y u) (hx : evM M x = some (.int k a)) (hy : evM M y = some (.int k b)) (h : b < a) : Runs P n D M o w (.value (.bool true)) w := R.bin ho hx hy (I.gtT h)
theorem R.gtF {k : IntKind} {a b : Int} (ho : o.op = .binOp .gtr t x y u) (hx : evM M x = some (.int k a)) (hy : evM M y = some (.int k b)) (h : a ≤ b) : Runs P n D M o w (.value (.bool false)) w := R.bin ho hx hy (I.gtF h)
theorem R.geT {k : IntKind} {a b : Int} (ho : o.op = .binOp .geq t x y u) (hx : evM M x = some (.int k a)) (hy : evM M y = some (.int k b)) (h : b ≤ a) : Runs P n D M o w (.value (.bool true)) w := R.bin ho hx hy (I.geT h)
theorem R.geF {k : IntKind} {a b : Int} (ho : o.op = .binOp .geq t x y u) (hx : evM M x = some (.int k a)) (hy : evM M y = some (.int k b)) (h : a < b) : Runs P n D M o w (.value (.bool false)) w := R.bin ho hx hy (I.geF h)
theorem R.eqT {k : IntKind} {a b : Int} (ho : o.op = .binOp .eql t x y u) (hx : evM M x = some (.int k a)) (hy : evM M y = some (.int k b)) (h : a = b) : Runs P n D M o w (.value (.bool true)) w := R.bin ho hx hy (I.eqT h)
theorem R.eqF {k : IntKind} {a b : Int} (ho : o.op = .binOp .eql t x y u) (hx : evM M x = some (.int k a)) (hy : evM M y = some (.int k b)) (h : a ≠ b) : Runs P n D M o w (.value (.bool false)) w := R.bin ho hx hy (I.eqF h)
theorem R.neT {k : IntKind} {a b : Int} (ho : o.op = .binOp .neq t x y u) (hx : evM M x = some (.int k a)) (hy : evM M y = some (.int k b)) (h : a ≠ b) : Runs P n D M o w (.value (.bool true)) w := R.bin ho hx hy (I.neT h)
theorem R.neF {k : IntKind} {a b : Int} (ho : o.op = .binOp .neq t x y u) (hx : evM M x = some (.int k a)) (hy : evM M y = some (.int k b)) (h : a = b) : Runs P n D M o w (.value (.bool false)) w := R.bin ho hx hy (I.neF h)
theorem R.not {b : Bool} (ho : o.op = .unOp .not t x) (hx : evM M x = some (.bool b)) : Runs P n D M o w (.value (.bool (!b))) w := R.un ho hx I.not
theorem R.convI {k j : IntKind} {m z : Int} (ho : o.op = .convert t u x) (hx : evM M x = some (.int j m)) (hs : intB P t = some j) (ht : intB P u = some k) (hz : k.wrap m = z) : Runs P n D M o w (.value (.int k z)) w := R.conv ho hx (by rw [I.conv hs ht, hz])
theorem R.len {xs : Array Operand} {ts : Array TypeId} {v : Value} {m : Nat} (ho : o.op = .call { callee := .builtin .len, args := xs, argTypes := ts }) (hx : evsM M xs.toList = some [v]) (ht : ts[0]? = some t) (h : lenB P t v = some m) : Runs P n D M o w (.value (.int .i64 (m : Int))) w := R.builtin ho hx fun _ => I.len ht h
/-- A variable's box: a new block. -/
theorem LL.box {r : Option Nat} {ops : Array Oper} {Q : Exit → Act → World → Prop} {rest : List Oper} {v : Value} (cs : List Value) (ho : o.op = .box t x) (hx : evM M x = some v) (hcs : v.cells = cs.toArray) (hd : dstB n o.dst = true) (hg : wantB ops M o.guard = some true)
    (k : ∀ w1 g, g = w.heap.size → RowL w1 g t cs → w1.heap.size = g + 1 → Below w.heap.size w w1 → LL r P ops Q n D (putM M o.dst (.pointer (some ⟨g, 0, none⟩))) rest w1) : LL r P ops Q n D M (o :: rest) w :=
  LL.val (R.box ho hx (run_box hcs)) hd (by rw [ho]; rfl) hg (k _ _ rfl (RowL.new w t cs) (by simp) (Below.alloc0 w _))
theorem LL.alloc {r : Option Nat} {ops : Array Oper} {Q : Exit → Act → World → Prop} {rest : List Oper} {v : Value} (cs : List Value) (ho : o.op = .alloc t) (hz : zeroB P t = some v) (hcs : v.cells = cs.toArray) (hd : dstB n o.dst = true) (hg : wantB ops M o.guard = some true)
    (k : ∀ w1 g, g = w.heap.size → RowL w1 g t cs → w1.heap.size = g + 1 → Below w.heap.size w w1 → LL r P ops Q n D (putM M o.dst (.pointer (some ⟨g, 0, none⟩))) rest w1) : LL r P ops Q n D M (o :: rest) w :=
  LL.val (R.alloc ho (run_alloc hz hcs)) hd (by rw [ho]; rfl) hg (k _ _ rfl (RowL.new w t cs) (by simp) (Below.alloc0 w _))
/-- A store of one cell into a row that is known. -/
theorem LL.store {r : Option Nat} {ops : Array Oper} {Q : Exit → Act → World → Prop} {rest : List Oper} {v : Value} {g off e : Nat} {xs : List Value} (ho : o.op = .store t x y) (hx : evM M x = some (.pointer (some ⟨g, off, none⟩))) (hy : evM M y = some v) (hz : szB P t = some 1) (hr : RowL w g e xs) (hl : off < xs.length) (h1 : v.oneCell' = true) (hcs : v.cells = #[v]) (hd : o.dst = none) (hg : wantB ops M o.guard = some true)
    (k : ∀ w1, RowL w1 g e (xs.set off v) → w.grownBy w1 (some g) → w1.heap.size = w.heap.size → LL r P ops Q n D M rest w1) : LL r P ops Q n D M (o :: rest) w :=
  LL.unit (R.store ho hx hy (I.st1R hz hr hl h1 hcs)) hd (by rw [ho]; rfl) hg (k _ (hr.set off v) (grown_set w _ v) (by simp [World.setCell]))
/-- A store of a whole value into a row that is known. -/
theorem LL.storeN {r : Option Nat} {ops : Array Oper} {Q : Exit → Act → World → Prop} {rest : List Oper} {vs : List Value} {g off e : Nat} {xs : List Value} (ho : o.op = .store t x y) (hx : evM M x = some (.pointer (some ⟨g, off, none⟩))) (hy : evM M y = some (.agg vs.toArray)) (hz : szB P t = some vs.length) (hr : RowL w g e xs) (hl : off + vs.length ≤ xs.length) (h1 : ∀ u ∈ vs, u.oneCell' = true) (hd : o.dst = none) (hg : wantB ops M o.guard = some true)
    (k : ∀ w1, RowL w1 g e (xs.take off ++ vs ++ xs.drop (off + vs.length)) → w.grownBy w1 (some g) → w1.heap.size = w.heap.size → LL r P ops Q n D M rest w1) : LL r P ops Q n D M (o :: rest) w := by
  obtain ⟨w1, h2, h3, h4, h5⟩ := I.stN (t := t) hz hr hl h1
  exact LL.unit (R.store ho hx hy h2) hd (by rw [ho]; rfl) hg (k _ h3 h4 h5)
theorem below_drew {w : World} : Below w.heap.size w w.drew := (Below.refl _ w).drew
end

/-! Compared values that are no numbers. -/
section
variable {P : Program} {w : World} {o : Oper} {n : Nat} {D : List Deferred} {M : Slots} {x y : Operand} {t u : TypeId} {vx vy : Value}
def isPtr (P : Program) (t : TypeId) : Bool := match P.underlying t with | some (.pointer _) => true | _ => false
def isStr (P : Program) (t : TypeId) : Bool := match P.underlying t with | some .string => true | _ => false
def isFn (P : Program) (t : TypeId) : Bool := match P.underlying t with | some (.func _ _ _) => true | _ => false
theorem equal_ptr_nil {a : Option Addr} (h : isPtr P t = true) : (Op.equal t (.pointer a) (.pointer none)).run P w = .ok a.isNone w := by
  unfold isPtr at h
  cases hu : P.underlying t with
  | none => rw [hu] at h; cases h
  | some d =>
    rw [hu] at h
    cases d <;> try (cases h; done)
    unfold Op.equal Op.maxDepth Op.equalIn
    cases a <;> simp [run_underlying hu]
theorem equal_fn_nil {f : Fn} {c1 c2 : Array Value} (h : isFn P t = true) : (Op.equal t (.func f c1 c2) .nilFunc).run P w = .ok false w := by
  unfold isFn at h
  cases hu : P.underlying t with
  | none => rw [hu] at h; cases h
  | some d =>
    rw [hu] at h
    cases d <;> try (cases h; done)
    unfold Op.equal Op.maxDepth Op.equalIn
    simp [run_underlying hu]
theorem I.eqOf {b : Bool} (hne : ∀ k a k' c, ¬ (vx = .int k a ∧ vy = .int k' c)) (hagg : ∀ c, vx ≠ .agg c) (h : (Op.equal t vx vy).run P w = .ok b w) (hk : (∃ p q, vx = .pointer p ∧ vy = .pointer q) ∨ (∃ a l c a' l' c', vx = .slice a l c ∧ vy = .slice a' l' c') ∨ (∃ f c1 c2, vx = .func f c1 c2 ∧ vy = .nilFunc) ∨ (∃ a b, vx = .bool a ∧ vy = .bool b)) :
    ((do eqGuard .eql t x y vx vy; binOp .eql t vx vy) : Sem Value).run P w = .ok (.bool b) w ∧ ((do eqGuard .neq t x y vx vy; binOp .neq t vx vy) : Sem Value).run P w = .ok (.bool (!b)) w := by
  rcases hk with ⟨p, q, rfl, rfl⟩ | ⟨a, l, c, a', l', c', rfl, rfl⟩ | ⟨f, c1, c2, rfl, rfl⟩ | ⟨a, b', rfl, rfl⟩ <;> (constructor <;> simp [eqGuard, binOp, h])
theorem R.eqPtr {a : Option Addr} {b : Bool} (ho : o.op = .binOp .eql t x y u) (hx : evM M x = some (.pointer a)) (hy : evM M y = some (.pointer none)) (h : isPtr P t = true) (hb : a.isNone = b) : Runs P n D M o w (.value (.bool b)) w :=
  R.bin ho hx hy (by rw [← hb]; exact (I.eqOf (by rintro _ _ _ _ ⟨h, _⟩; cases h) (by rintro _ h; cases h) (equal_ptr_nil h) (.inl ⟨_, _, rfl, rfl⟩)).1)
theorem R.eqFn {f : Fn} {c1 c2 : Array Value} (ho : o.op = .binOp .eql t x y u) (hx : evM M x = some (.func f c1 c2)) (hy : evM M y = some .nilFunc) (h : isFn P t = true) : Runs P n D M o w (.value (.bool false)) w :=
  R.bin ho hx hy (I.eqOf (by rintro _ _ _ _ ⟨h, _⟩; cases h) (by rintro _ h; cases h) (equal_fn_nil h) (.inr (.inr (.inl ⟨_, _, _, rfl, rfl⟩)))).1
end

/-! Words. -/
section
variable {P : Program} {w : World} {o : Oper} {n : Nat} {D : List Deferred} {M : Slots} {x y : Operand} {t u : TypeId} {a b : Nat}
end
theorem R.buildV {P : Program} {w : World} {o : Oper} {n : Nat} {D : List Deferred} {M : Slots} {t : TypeId} {ps : Array (Nat × Operand)} {vs : List (Nat × Value)} {v : Value} (ho : o.op = .build t ps) (hx : evpM M ps.toList = some vs) (hr : ∀ w, (Instr.build t vs.toArray).run P w = .ok v w) : Runs P n D M o w (.value v) w := R.build' ho hx (hr w)
/-! With a constant. -/
section
variable {P : Program} {w : World} {o : Oper} {n : Nat} {D : List Deferred} {M : Slots} {x y : Operand} {t u : TypeId} {a b : Nat}
theorem R.addNc (hlit : Nat.ble b 18446744073709551616 = true) (ho : o.op = .binOp .add t x y u) (hx : evM M x = some (.int .i64 (a : Int))) (hy : evM M y = some (.int .i64 (@OfNat.ofNat Int b instOfNat))) (h : a + (@OfNat.ofNat Nat b (instOfNatNat b)) ≤ 9223372036854775807) : Runs P n D M o w (.value (.int .i64 ((a + (@OfNat.ofNat Nat b (instOfNatNat b)) : Nat) : Int))) w := R.addN (b := b) ho hx hy h
theorem R.subNc (hlit : Nat.ble b 18446744073709551616 = true) (ho : o.op = .binOp .sub t x y u) (hx : evM M x = some (.int .i64 (a : Int))) (hy : evM M y = some (.int .i64 (@OfNat.ofNat Int b instOfNat))) (h : (@OfNat.ofNat Nat b (instOfNatNat b)) ≤ a) (h2 : a ≤ 9223372036854775807) : Runs P n D M o w (.value (.int .i64 ((a - (@OfNat.ofNat Nat b (instOfNatNat b)) : Nat) : Int))) w := R.subN (b := b) ho hx hy h h2
theorem R.mulNc (hlit : Nat.ble b 18446744073709551616 = true) (ho : o.op = .binOp .mul t x y u) (hx : evM M x = some (.int .i64 (a : Int))) (hy : evM M y = some (.int .i64 (@OfNat.ofNat Int b instOfNat))) (h : a * (@OfNat.ofNat Nat b (instOfNatNat b)) ≤ 9223372036854775807) : Runs P n D M o w (.value (.int .i64 ((a * (@OfNat.ofNat Nat b (instOfNatNat b)) : Nat) : Int))) w := R.mulN (b := b) ho hx hy h
theorem R.quoNc (hlit : Nat.ble b 18446744073709551616 = true) (ho : o.op = .binOp .quo t x y u) (hx : evM M x = some (.int .i64 (a : Int))) (hy : evM M y = some (.int .i64 (@OfNat.ofNat Int b instOfNat))) (h : 0 < (@OfNat.ofNat Nat b (instOfNatNat b))) (h2 : a ≤ 9223372036854775807) : Runs P n D M o w (.value (.int .i64 ((a / (@OfNat.ofNat Nat b (instOfNatNat b)) : Nat) : Int))) w := R.quoN (b := b) ho hx hy h h2
theorem R.remNc (hlit : Nat.ble b 18446744073709551616 = true) (ho : o.op = .binOp .rem t x y u) (hx : evM M x = some (.int .i64 (a : Int))) (hy : evM M y = some (.int .i64 (@OfNat.ofNat Int b instOfNat))) (h : 0 < (@OfNat.ofNat Nat b (instOfNatNat b))) : Runs P n D M o w (.value (.int .i64 ((a % (@OfNat.ofNat Nat b (instOfNatNat b)) : Nat) : Int))) w := R.remN (b := b) ho hx hy h
theorem R.mulcN (hlit : Nat.ble a 18446744073709551616 = true) (ho : o.op = .binOp .mul t x y u) (hx : evM M x = some (.int .i64 (@OfNat.ofNat Int a instOfNat))) (hy : evM M y = some (.int .i64 (b : Int))) (h : (@OfNat.ofNat Nat a (instOfNatNat a)) * b ≤ 9223372036854775807) : Runs P n D M o w (.value (.int .i64 (((@OfNat.ofNat Nat a (instOfNatNat a)) * b : Nat) : Int))) w := R.mulN (a := a) ho hx hy h
theorem I.ixS1c {e bl off len cap i : Nat} (hlit : Nat.ble i 18446744073709551616 = true) (h : slB P t = some (e, 1)) (hi : (@OfNat.ofNat Nat i (instOfNatNat i)) < len) : (Instr.indexAt t (.slice (some ⟨bl, off, none⟩) len cap) (.int .i64 (@OfNat.ofNat Int i instOfNat))).run P w = .ok (.pointer (some ⟨bl, off + (@OfNat.ofNat Nat i (instOfNatNat i)), none⟩)) w := I.ixS1 (i := i) h hi
end

/-! Slices that the call makes. -/
section
variable {P : Program} {w : World} {o : Oper} {n : Nat} {D : List Deferred} {M : Slots} {t T e : TypeId} {z : Value} {bytes : Nat} {r : Option Nat} {ops : Array Oper} {Q : Exit → Act → World → Prop} {rest : List Oper}
/-- A literal. -/
theorem LL.lit {ps : Array (Nat × Operand)} {k : Nat} {vs : List (Nat × Value)} (cs : List Value) (len : Nat) (ho : o.op = .buildSlice t k ps) (hx : evpM M ps.toList = some vs) (hr : ∀ w, (Instr.buildSlice t k vs.toArray).run P w = .ok (.slice (some ⟨w.heap.size, 0, none⟩) len len) (w.alloc (.cells cs.toArray e))) (hd : dstB n o.dst = true) (hg : wantB ops M o.guard = some true)
    (k : ∀ w1 g, g = w.heap.size → RowL w1 g e cs → w1.heap.size = g + 1 → Below w.heap.size w w1 → LL r P ops Q n D (putM M o.dst (.slice (some ⟨g, 0, none⟩) len len)) rest w1) : LL r P ops Q n D M (o :: rest) w :=
  LL.val (R.buildSlice ho hx (hr w)) hd (by rw [ho]; rfl) hg (k _ _ rfl (RowL.new w e cs) (by simp) (Below.alloc0 w _))
/-- append(s, x..) where the call owns s. -/
theorem LL.append {xs : Array Operand} {v vx : Value} {base m : Nat} {us ys : List Value} (ho : o.op = .call { callee := .builtin .append, args := xs, argTypes := #[T, T] }) (hx : evsM M xs.toList = some [v, vx]) (I : El P T e z bytes) (hown : w.ownsRow base e 1 v m us) (hr : Reads w vx ys) (hone : ∀ u ∈ ys, u.oneCell' = true)
    (h63 : m + ys.length ≤ maxLen) (hb : (m + ys.length) * bytes ≤ 140737488355328) (hbase : base ≤ w.heap.size) (hd : dstB n o.dst = true) (hg : wantB ops M o.guard = some true)
    (k : ∀ v' w', w'.ownsRow base e 1 v' (m + ys.length) (us ++ ys) → w.grownBy w' v.ownBlock → LL r P ops Q n D (putM M o.dst v') rest w') : LL r P ops Q n D M (o :: rest) w := by
  obtain ⟨v', w', h1, h2, h3⟩ := run_append_all I o.type hown hr hone h63 hb hbase
  refine LL.val (v := v') (R.builtin ho hx fun b => ?_) hd (by rw [ho]; rfl) hg (k v' w' h2 h3)
  unfold builtin
  simp only [Sem.run_bind, h1, Result.andThen_ok, Sem.run_pure]
theorem LL.make {x y : Operand} {l m : Nat} (I : El P T e z bytes) (ho : o.op = .makeSlice T x y) (hx : evM M x = some (.int .i64 (l : Int))) (hy : evM M y = some (.int .i64 (m : Int))) (hl : l ≤ m) (hb : bytes * m ≤ 281474976710656) (hn : m ≤ 9223372036854775807) (hd : dstB n o.dst = true) (hg : wantB ops M o.guard = some true)
    (k : ∀ w1 g, g = w.heap.size → RowL w1 g e (List.replicate m z) → w1.heap.size = g + 1 → Below w.heap.size w w1 → LL r P ops Q n D (putM M o.dst (.slice (some ⟨g, 0, none⟩) l m)) rest w1) : LL r P ops Q n D M (o :: rest) w :=
  LL.val (R.make ho hx hy (run_mk I l m hl hb hn _ _ rfl rfl w)) hd (by rw [ho]; rfl) hg (k _ _ rfl (RowL.made w e z m) (by simp) (Below.alloc0 w _))
end

/-! Texts. -/
section
variable {P : Program} {w : World} {o : Oper} {n : Nat} {D : List Deferred} {M : Slots} {x y : Operand} {t u : TypeId} {a b : ByteArray}
theorem R.eqStr {c : Bool} (ho : o.op = .binOp .eql t x y u) (hx : evM M x = some (.string a)) (hy : evM M y = some (.string b)) (hc : (a.toList == b.toList) = c) : Runs P n D M o w (.value (.bool c)) w :=
  R.bin ho hx hy (by simp [eqGuard, binOp, Op.stringOp, ← hc])
theorem R.neStr {c : Bool} (ho : o.op = .binOp .neq t x y u) (hx : evM M x = some (.string a)) (hy : evM M y = some (.string b)) (hc : (!(a.toList == b.toList)) = c) : Runs P n D M o w (.value (.bool c)) w :=
  R.bin ho hx hy (by simp [eqGuard, binOp, Op.stringOp, ← hc])
end
def sl8B (P : Program) (t : TypeId) : Bool := match P.underlying t with
  | some (.slice e) => (match P.underlying e with | some (.int .u8) => true | _ => false)
  | _ => false
theorem run_toStr {P : Program} {s t : TypeId} {w : World} {v : Value} {bs : List Nat} (hs : sl8B P s = true) (ht : isStr P t = true) (h : Reads w v (ints .u8 bs)) : (convert s t v).run P w = .ok (.string (strB bs)) w := by
  unfold sl8B at hs
  unfold isStr at ht
  cases hu : P.underlying s with
  | none => rw [hu] at hs; cases hs
  | some d =>
    rw [hu] at hs
    cases d <;> try (cases hs; done)
    rename_i e
    simp only at hs
    cases he : P.underlying e with
    | none => rw [he] at hs; cases hs
    | some d2 =>
      rw [he] at hs
      cases d2 <;> try (cases hs; done)
      rename_i k
      cases k <;> try (cases hs; done)
      cases ht2 : P.underlying t with
      | none => rw [ht2] at ht; cases ht
      | some d3 =>
        rw [ht2] at ht
        cases d3 <;> try (cases ht; done)
        exact run_str hu he ht2 h
end Go.Proofs.Ytajfffoaebjnlaa
/- Ranges over functions, in the walk by explicit steps. Over any program. -/
namespace Go.Proofs.Ytajfffoaebjnlaa
set_option linter.unusedVariables false
set_option linter.unusedSimpArgs false
open Go.RowKit Go.Shelf

/-- A function whose body ranges over functions. -/
theorem X.fnM {P : Program} {f : FuncId} {fn : Func} {c : Code} {args : Array Value} {w : World} {R : Ending → World → Prop} {n : Nat} (hf : P.funcs[f]? = some fn) (hb : fn.body = some c) (hn : fn.ntmps = n) (ha : Nat.ble args.size n = true)
    (h : CC none P (calmP (bodyPostM Fence.wide 3 P fn R)) n [] (argM args) c w) : Calls P f args w R := by
  subst hn
  exact calls_marks hf hb ((wpIn_wide (n := 3)).1 (h.h _ (Fr.start args _ (by simpa using ha))))

section
variable {P : Program} {fn : Func} {R : Ending → World → Prop} {n : Nat} {M : Slots} {w : World}
def mark (E : Nat) : Deferred := { target := .collected E, args := #[] }
/-- What is left of a world when the range's mark is taken. -/
def taken (E : Nat) (w : World) : World := w.putObj E (.deferred none)
theorem retM1 {a : Act} {vs : List Value} {E : Nat} (F : Fr n [mark E] M a) (hE : w.heap[E]? = some (.deferred (some []))) (h : resM M fn.results.toList = some vs) (h3 : Nat.ble vs.length 3 = true) (hR : R (.returned (resV vs)) (taken E w)) : LeavesInM Fence.wide 3 P fn a.tmps R a.defers .returning w := by
  rw [F.defers]
  refine ⟨by simp, .inl ⟨_, _, rfl, run_takeDeferred hE, ?_⟩⟩
  exact ⟨_, results_run (P := P) F h (by simpa using h3), hR⟩
/-- A return behind one range. -/
theorem EE.ret1 {E : Nat} (hE : w.heap[E]? = some (.deferred (some []))) (vs : List Value) (h : resM M fn.results.toList = some vs) (h3 : Nat.ble vs.length 3 = true) (hR : R (.returned (resV vs)) (taken E w)) : EE (calmP (bodyPostM Fence.wide 3 P fn R)) n [mark E] M .ret w := EE.mk fun a F => retM1 F hE h h3 hR
theorem taken_bel {B E : Nat} {X W : World} (h : Below B X W) (hE : B ≤ E) (hs : B ≤ X.heap.size) : Below B X (taken E W) :=
  h.grown (grownBy_putObj' _ _ _) (Nat.le_trans hs h.size) (fun k e => by cases e; exact hE)
end

/-- The parameters of a round, laid into slots. -/
def psM (M : Slots) : List Tmp → List Value → Slots
  | p :: ps, v :: vs => psM (up M p v) ps vs
  | _, _ => M
theorem psM_fr {n : Nat} {D : List Deferred} : ∀ (ps : List Tmp) (vs : List Value) (M : Slots) (tm : Array Value) (d : List Deferred), Fr n D M ⟨tm, d⟩ → (ps.all fun p => Nat.blt p n) = true → Fr n D (psM M ps vs) ⟨(ps.zip vs).foldl (fun t (p, v) => t.setIfInBounds p v) tm, d⟩
  | [], _, M, tm, d, F, _ => by simpa [psM] using F
  | _ :: _, [], M, tm, d, F, _ => by simpa [psM] using F
  | p :: ps, v :: vs, M, tm, d, F, h => by
    simp only [List.all_cons, Bool.and_eq_true] at h
    have := F.put (some p) v h.1
    exact psM_fr ps vs _ _ d this h.2

section
variable {α : Type} {P : Program} {n : Nat} {D : List Deferred} {M : Slots}
/-- A range over a function, outermost, of which a round may break at most. -/
theorem CC.range {id gf : Nat} {Dk : Nat → Prop} {g : Operand} {ps : Array Tmp} {assign body : Code} {Q : Exit → Act → World → Prop} {w w0 : World} {lb : List Value} {encs : α → List Value} {S : List α → Prop}
    (hg : evM M g = some (.func (.func gf) #[] lb.toArray)) (eg : entB P gf = true) (hseq : Gives P gf lb.toArray (fun x => (encs x).toArray) Dk S w0) (hb : Below w0.heap.size w0 w) (hn : ∀ k, Dk k → k < w.heap.size) (hps : ∀ x, (encs x).length = ps.size) (hpn : (ps.toList.all fun p => Nat.blt p n) = true)
    (I Ix : Nat → List α → World → Prop) (A : World → Prop) (hI : ∀ m, Abides w.heap.size m (I m)) (hIx : ∀ m, Abides w.heap.size m (Ix m)) (h0 : ∀ m, I m [] w) (hIA : ∀ m xs W, S xs → I m xs W → A W) (hIxA : ∀ m pre W, Part S pre → Ix m pre W → A W)
    (Mx : α → Slots)
    (hassign : ∀ (l m : Nat) pre x W (K : Act → World → Prop), w.heap.size ≤ m → I m pre W → (∀ a' W', Stays w.heap.size m W W' → Keeps Dk W W' → I m pre W' → Fr n [] (Mx x) a' → K a' W') → CC (some l) P (Exit.then K (fun _ _ _ => False)) n [] (psM M ps.toList (encs x)) assign W)
    (hbody : ∀ (l m : Nat) pre x W, w.heap.size ≤ m → w.heap.size ≤ l → (∃ r, W.heap[l]? = some (.loop r)) → I m pre W → Part S (pre ++ [x]) → CC (some l) P (roundP w.heap.size m Dk I (fun c m pre W => c = .exit id ∧ Ix m pre W) (pre ++ [x]) W) n [] (Mx x) body W)
    (hafter : ∀ (E : Nat) W, w.heap.size ≤ E → A W → W.heap[E]? = some (.deferred (some [])) → EE Q n (mark E :: D) M .normal W) :
    CC none P (Exit.inBlock id Q) n D M (.rangeFunc g ps assign body) w := CC.mk fun a F => by
  refine range_break (gf := gf) (lb := lb.toArray) (F.ev hg) (ent_of eg) hseq hb hn (fun x => by simpa using hps x) I Ix A hI hIx h0 (fun x a' _ => Fr n [] (Mx x) a') (fun _ _ _ _ _ _ hs _ _ => hs) hIA hIxA ?_ ?_ ?_
  · intro l m pre x W K hm hi hK
    refine (hassign l m pre x W K hm hi fun a' W' h1 h2 h3 h4 => hK a' W' h1 h2 h3 h4).h _ ?_
    have F0 : Fr n [] M ⟨a.tmps, []⟩ := ⟨F.size, rfl, F.get⟩
    have := psM_fr ps.toList (encs x) M a.tmps [] F0 hpn
    have e : (ps.zip (encs x).toArray).foldl (fun t (p, v) => t.setIfInBounds p v) a.tmps = (ps.toList.zip (encs x)).foldl (fun t (p, v) => t.setIfInBounds p v) a.tmps := by
      obtain ⟨l⟩ := ps
      rw [← Array.foldl_toList]
      simp
    rw [e]
    exact this
  · intro l m pre x a' W hm hl hr hi hax hp
    exact (hbody l m pre x W hm hl hr hi hp).h a' hax
  · intro E W hE hA hd
    exact (hafter E W hE hA hd).h _ ⟨F.size, by rw [F.defers]; rfl, F.get⟩
theorem EE.thenK {K : Act → World → Prop} {Q : Exit → Act → World → Prop} {w : World} (h : ∀ a, Fr n D M a → K a w) : EE (Exit.then K Q) n D M .normal w := EE.mk fun a F => h a F
theorem roundWr {r : Option Nat} {m m' l : Nat} {f : FuncId} {tmps : Array Value} {assign body : Code} {w : World} {R : Ending → World → Prop} (h : RoundIn Fence.wide m P l f tmps assign body w R) : RoundIn (Wr r) m' P l f tmps assign body w R := ⟨trivial, fun c cs _ => h.2 c cs (room_wide _)⟩
/-- An iterator gives an element. -/
theorem LL.yield {r : Option Nat} {ops : Array Oper} {Q : Exit → Act → World → Prop} {rest : List Oper} {o : Oper} {w : World} {x : Operand} {xs : Array Operand} {ts : Array TypeId} {vs : List Value} {l : Nat} {R : Ending → World → Prop} (ho : o.op = .call { callee := .value x, args := xs, argTypes := ts }) (hf : evM M x = some (.func (.yield l) #[] #[])) (hx : evsM M xs.toList = some vs) (hd : dstB n o.dst = true) (hg : wantB ops M o.guard = some true)
    (hY : YieldAt Fence.wide 3 P l vs.toArray w R) (k : ∀ e w', R e w' → ∃ v, e = .returned v ∧ LL r P ops Q n D (putM M o.dst v) rest w') : LL r P ops Q n D M (o :: rest) w := LL.mk fun a F => by
  obtain ⟨fn, tmps, assign, body, hy, hR⟩ := hY
  refine wpListIn_step fun K hK => ?_
  rw [if_pos (F.want hg)]
  have hm := evs_mapA F hx
  refine wpIn_of_run (x := .round l fn tmps assign body) (w' := w) (by rw [ho]; rfl) ?_ ⟨fun h => (by cases h), roundWr (hR.mono fun e w' hR' => ?_)⟩
  · unfold execOp
    simp only [ho, resolve, F.ev hf, hm, Deferred.ofValue, invoke, Sem.run_bind, Sem.run_pure, Result.andThen_ok, Array.empty_append]
    exact hy
  · obtain ⟨v, rfl, hk⟩ := k e w' hR'
    exact hK _ _ (hk.h _ (F.put _ _ hd))
/-- A builtin copy into a row that is known. -/
theorem LL.copy {r : Option Nat} {ops : Array Oper} {Q : Exit → Act → World → Prop} {rest : List Oper} {o : Oper} {w : World} {xs : Array Operand} {dT sT e g off dl dc sl sc t : Nat} {p : Addr} {row cs : List Value} (ho : o.op = .call { callee := .builtin .copy, args := xs, argTypes := #[dT, sT] }) (hx : evsM M xs.toList = some [.slice (some ⟨g, off, none⟩) dl dc, .slice (some p) sl sc])
    (hz : slB P dT = some (e, 1)) (hr : RowL w g t row) (hcs : Cells w p cs) (hn : cs.length = Nat.min sl dl) (hfit : off + cs.length ≤ row.length) (h1 : ∀ v ∈ cs, v.oneCell' = true) (hd : dstB n o.dst = true) (hg : wantB ops M o.guard = some true)
    (k : ∀ w1, RowL w1 g t (row.take off ++ cs ++ row.drop (off + cs.length)) → w.grownBy w1 (some g) → w1.heap.size = w.heap.size → LL r P ops Q n D (putM M o.dst (.int .i64 (cs.length : Int))) rest w1) : LL r P ops Q n D M (o :: rest) w := by
  obtain ⟨hu, hz1⟩ := sl_of hz
  have hrun := run_copy_row (P := P) w dT sT o.type e g off dl dc p sl sc row.toArray t cs hu hz1 hr hn hcs (by simpa using hfit) h1
  refine LL.val (v := .int .i64 (cs.length : Int)) (R.builtin ho hx fun b => ?_) hd (by rw [ho]; rfl) hg (k _ (setRow_heap w g row.toArray _ t (0, 0) hr) (setRow_grown w g _) (by simp))
  unfold builtin
  simp only [Sem.run_bind, hrun, Result.andThen_ok, Sem.run_pure]
  rfl
end
end Go.Proofs.Ytajfffoaebjnlaa
/- Regions that draw their order and hold steps that make memory: what reads only goes first, the rest in each order that may be. Over any program. -/
namespace Go.Proofs.Ytajfffoaebjnlaa
set_option linter.unusedVariables false
set_option linter.unusedSimpArgs false
open Go.RowKit Go.Shelf

section
variable {P : Program} {ops : Array Oper} {Q : Exit → Act → World → Prop} {ok : World → Prop} {r : Option Nat}

/-- One step, whatever it is. -/
def actR (P : Program) (o : Oper) (K : Act → World → Prop) (a : Act) (w : World) : Prop :=
  (∃ v w', (execOp a.eval o).run P w = .ok (.value v) w' ∧ K (a.put o.dst v) w') ∨
  (∃ w', (execOp a.eval o).run P w = .ok .skip w' ∧ K (a.put o.dst undef) w') ∨
  (∃ f args w' R, (execOp a.eval o).run P w = .ok (.enter f args) w' ∧ Calls P f args w' R ∧ ∀ e w'', R e w'' → ∃ v, e = .returned v ∧ K (a.put o.dst v) w'')
def stepR (P : Program) (ops : Array Oper) (ok : World → Prop) (i : Nat) (K : Act → World → Prop) (a : Act) (w : World) : Prop :=
  match ops[i]? with
  | none => K a w
  | some o => if Region.wanted o (yielded ops a.tmps) then actR P o (fun a' w' => ok w' ∧ K a' w') a w else K (a.put o.dst undef) w
def AnyR (P : Program) (ops : Array Oper) (ok : World → Prop) (Q : Exit → Act → World → Prop) : Nat → Array Bool → Act → World → Prop
  | 0, listed, a, w => Region.ready .any ops listed = [] ∧ Q .normal a w
  | f + 1, listed, a, w => (Region.ready .any ops listed = [] → Q .normal a w) ∧ ∀ i ∈ Region.ready .any ops listed, stepR P ops ok i (AnyR P ops ok Q f (listed.setIfInBounds i true)) a w

theorem actR_mono {o : Oper} {K K' : Act → World → Prop} {a : Act} {w : World} (h : ∀ a w, K a w → K' a w) (hh : actR P o K a w) : actR P o K' a w := by
  rcases hh with ⟨v, w', h1, h2⟩ | ⟨w', h1, h2⟩ | ⟨f, args, w', R, h1, h2, h3⟩
  · exact .inl ⟨v, w', h1, h _ _ h2⟩
  · exact .inr (.inl ⟨w', h1, h _ _ h2⟩)
  · exact .inr (.inr ⟨f, args, w', R, h1, h2, fun e w'' hR => by obtain ⟨v, he, hk⟩ := h3 e w'' hR; exact ⟨v, he, h _ _ hk⟩⟩)
theorem stepR_mono {i : Nat} {K K' : Act → World → Prop} {a : Act} {w : World} (h : ∀ a w, K a w → K' a w) (hh : stepR P ops ok i K a w) : stepR P ops ok i K' a w := by
  unfold stepR at *
  split
  · rename_i ho; simp only [ho] at hh; exact h _ _ hh
  · rename_i o ho
    simp only [ho] at hh
    split
    · rename_i hw; rw [if_pos hw] at hh; exact actR_mono (fun a w hk => ⟨hk.1, h _ _ hk.2⟩) hh
    · rename_i hw; rw [if_neg hw] at hh; exact h _ _ hh
theorem wpIn_of_actR {o : Oper} {K : Act → World → Prop} {a : Act} {w : World} (hdf : dfB o.op = false) (hh : actR P o K a w) : o.wpIn (Wr r) 3 P a w K Q := by
  rcases hh with ⟨v, w', h1, h2⟩ | ⟨w', h1, h2⟩ | ⟨f, args, w', R, h1, h2, h3⟩
  · exact wpIn_of_run hdf h1 h2
  · exact wpIn_of_run hdf h1 h2
  · exact wpIn_of_run hdf h1 ⟨fun h => (by cases h), callsWr (h2.mono fun e w'' hR => by obtain ⟨v, rfl, hk⟩ := h3 e w'' hR; exact hk)⟩
theorem wpAny_of_R (hdf : ∀ (j : Nat) (o : Oper), ops[j]? = some o → dfB o.op = false) : ∀ (f : Nat) (listed : Array Bool) (a : Act) (w : World), AnyR P ops ok Q f listed a w → wpAnyIn (Wr r) 3 P .any ops Q f listed a w
  | 0, _, _, _, h => h
  | f + 1, listed, a, w, h => ⟨h.1, fun i hi => by
    have h2 := h.2 i hi
    unfold stepR at h2
    unfold wpOpIn
    split
    · rename_i ho; simp only [ho] at h2; exact wpAny_of_R hdf f _ _ _ h2
    · rename_i o ho
      simp only [ho] at h2
      split
      · rename_i hw
        rw [if_pos hw] at h2
        exact wpIn_of_actR (hdf _ _ ho) (actR_mono (fun a' w' hk => wpAny_of_R hdf f _ _ _ hk.2) h2)
      · rename_i hw
        rw [if_neg hw] at h2
        exact ⟨about_wr a, wpAny_of_R hdf f _ _ _ h2⟩⟩

/-- It yields this, in whatever world that may come. -/
def Pure (P : Program) (ops : Array Oper) (ok : World → Prop) (o : Oper) (v : Value) (a : Act) : Prop :=
  (Region.wanted o (yielded ops a.tmps) = true ∧ ∀ w, ok w → (execOp a.eval o).run P w = .ok (.value v) w ∨ ∃ f args, (execOp a.eval o).run P w = .ok (.enter f args) w ∧ Calls P f args w (fun e w' => e = .returned v ∧ w' = w)) ∨
  (Region.wanted o (yielded ops a.tmps) = false ∧ v = undef)
theorem Pure.step {i : Nat} {o : Oper} {v : Value} {a : Act} {w : World} (hi : ops[i]? = some o) (hy : Pure P ops ok o v a) (hw : ok w) {K : Act → World → Prop} (h : K (a.put o.dst v) w) : stepR P ops ok i K a w := by
  unfold stepR
  simp only [hi]
  rcases hy with ⟨hwt, hv⟩ | ⟨hwt, rfl⟩
  · rw [if_pos hwt]
    rcases hv w hw with hv | ⟨f, args, hv, hc⟩
    · exact .inl ⟨v, w, hv, hw, h⟩
    · exact .inr (.inr ⟨f, args, w, _, hv, hc, fun e w' ⟨he, hw'⟩ => ⟨v, he, by rw [hw']; exact ⟨hw, h⟩⟩⟩)
  · rw [if_neg (by rw [hwt]; simp)]; exact h
theorem Pure.same {o : Oper} {v : Value} {a a' : Act} (hy : Pure P ops ok o v a) (he : execOp a'.eval o = execOp a.eval o) (hw : Region.wanted o (yielded ops a'.tmps) = Region.wanted o (yielded ops a.tmps)) : Pure P ops ok o v a' := by
  unfold Pure at *
  rw [he, hw]
  exact hy
theorem stepR_put {j : Nat} {oi oj : Oper} {v : Value} {a : Act} {w : World} (hj : ops[j]? = some oj) (hap : oi.apart ops oj = true) (hsi : ∀ cs b, oi.op ≠ .select cs b) (hsj : ∀ cs b, oj.op ≠ .select cs b) (hw : ok w) {K : Act → World → Prop}
    (hy : Pure P ops ok oi v a) (h : stepR P ops ok j K (a.put oi.dst v) w) : stepR P ops ok j (fun a' w' => Pure P ops ok oi v a' ∧ ok w' ∧ K (a'.put oi.dst v) w') a w := by
  obtain ⟨h1, h2, h3⟩ := Oper.apart_spec hap
  have keep : ∀ (a : Act), Pure P ops ok oi v a → ∀ u, Pure P ops ok oi v (a.put oj.dst u) := fun a hy u =>
    hy.same (execOp_put oi hsi a oj.dst u h3) (wanted_put oi a oj.dst u h3)
  unfold stepR at *
  simp only [hj] at *
  rw [wanted_put oj a oi.dst v h1] at h
  split
  · rename_i hwt
    rw [if_pos hwt] at h
    unfold actR at *
    rw [execOp_put oj hsj a oi.dst v h1] at h
    rcases h with ⟨u, w', e1, e2, e3⟩ | ⟨w', e1, e2, e3⟩ | ⟨f, args, w', R, e1, e2, e3⟩
    · exact .inl ⟨u, w', e1, e2, keep a hy u, e2, by rw [← Act.put_comm a v u h2]; exact e3⟩
    · exact .inr (.inl ⟨w', e1, e2, keep a hy _, e2, by rw [← Act.put_comm a v undef h2]; exact e3⟩)
    · exact .inr (.inr ⟨f, args, w', R, e1, e2, fun e w'' hR => by
        obtain ⟨u, he, hk, hk'⟩ := e3 e w'' hR
        exact ⟨u, he, hk, keep a hy u, hk, by rw [← Act.put_comm a v u h2]; exact hk'⟩⟩)
  · rename_i hwt
    rw [if_neg hwt] at h
    exact ⟨keep a hy _, hw, by rw [← Act.put_comm a v undef h2]; exact h⟩
theorem pure_first {i : Nat} {oi : Oper} {v : Value} (hi : ops[i]? = some oi) (hsel : ∀ (j : Nat) (o : Oper) cs b, ops[j]? = some o → o.op ≠ .select cs b) :
    ∀ (f : Nat) (listed : Array Bool) (a : Act) (w : World),
      (∀ j oj, ops[j]? = some oj → j ≠ i → listed.getD j true = false → (∀ e ∈ oj.after, Region.binds .any e = true → e.on ≠ i) → oi.apart ops oj = true) →
      i ∈ Region.ready .any ops listed → ok w → Pure P ops ok oi v a → AnyR P ops ok Q f (listed.setIfInBounds i true) (a.put oi.dst v) w → AnyR P ops ok Q (f + 1) listed a w := by
  intro f
  induction f with
  | zero =>
    intro listed a w _ hr hw hy H
    refine ⟨fun h => (by rw [h] at hr; cases hr), fun j hj => ?_⟩
    by_cases hji : j = i
    · subst hji; exact hy.step hi hw H
    · have := ready_mono hj hji
      rw [H.1] at this
      cases this
  | succ f ih =>
    intro listed a w hfree hr hw hy H
    refine ⟨fun h => (by rw [h] at hr; cases hr), fun j hj => ?_⟩
    by_cases hji : j = i
    · subst hji; exact hy.step hi hw H
    · have h1 := H.2 j (ready_mono hj hji)
      obtain ⟨hjun, oj, hoj, hall⟩ := mem_ready.1 hj
      have hnot : ∀ e ∈ oj.after, Region.binds .any e = true → e.on ≠ i := fun e he hb heq => by
        have h1 := hall e he hb
        have h0 := (mem_ready.1 hr).1
        rw [heq] at h1
        rcases Nat.lt_or_ge i listed.size with h' | h'
        · simp [h'] at h0 h1; rw [h0] at h1; cases h1
        · simp [Array.getElem?_eq_none h'] at h1
      have h2 := stepR_put hoj (hfree j oj hoj hji hjun hnot) (fun cs b => hsel i oi cs b hi) (fun cs b => hsel j oj cs b hoj) hw hy h1
      have hfree' : ∀ k ok', ops[k]? = some ok' → k ≠ i → (listed.setIfInBounds j true).getD k true = false →
          (∀ e ∈ ok'.after, Region.binds .any e = true → e.on ≠ i) → oi.apart ops ok' = true := fun k ok' hk hki hun hno => by
        refine hfree k ok' hk hki ?_ hno
        by_cases hjk : j = k
        · subst hjk; exact hjun
        · rw [getD_set_ne true hjk] at hun; exact hun
      refine stepR_mono (fun a' w' h3 => ih (listed.setIfInBounds j true) a' w' hfree' (ready_mono hr (Ne.symm hji)) h3.2.1 h3.1 ?_) h2
      rw [Array.setIfInBounds_comm _ _ hji]
      exact h3.2.2
end

/-- What is left of a region, these done. -/
structure AA (P : Program) (ops : Array Oper) (ok : World → Prop) (Q : Exit → Act → World → Prop) (n : Nat) (D : List Deferred) (M : Slots) (f : Nat) (listed : Array Bool) (w : World) : Prop where
  h : ∀ a, Fr n D M a → AnyR P ops ok Q f listed a w
/-- One step of it. -/
structure SR (P : Program) (ops : Array Oper) (ok : World → Prop) (i : Nat) (K : Slots → World → Prop) (n : Nat) (D : List Deferred) (M : Slots) (w : World) : Prop where
  h : ∀ (K' : Act → World → Prop), (∀ M w, K M w → ∀ a, Fr n D M a → K' a w) → ∀ a, Fr n D M a → stepR P ops ok i K' a w
def selB (l : List Oper) : Bool := l.all fun o => !dfB o.op
def rfB (ops : Array Oper) (listed : Array Bool) (i : Nat) : Bool := (Region.ready .any ops listed).contains i && Region.free .any ops listed i && Region.noSelect ops

section
variable {P : Program} {l : List Oper} {ops : Array Oper} {Q : Exit → Act → World → Prop} {ok : World → Prop} {r : Option Nat} {n f : Nat} {D : List Deferred} {M : Slots} {w w' : World} {listed : Array Bool} {o : Oper} {v : Value}

theorem CC.free {id : Nat} (ok : World → Prop) (hm : P.follows .mixedOrders = true) (hB : selB l = true) (h : AA P l.toArray ok Q n D M l.length (Array.replicate l.length false) w.drew) : CC r P Q n D M (.region id l.toArray true) w := CC.mk fun a F => by
  have hdf : ∀ (j : Nat) (o : Oper), l.toArray[j]? = some o → dfB o.op = false := fun j o ho => by
    have := List.all_eq_true.1 hB o (by simpa using List.mem_of_getElem? (by simpa using ho))
    simpa using this
  refine wpIn_region_any hm (wpAny_of_R (ok := ok) hdf _ _ _ _ ?_)
  simpa using h.h a F
theorem AA.pure (i : Nat) (hi : ops[i]? = some o) (hw : ok w) (hB : rfB ops listed i = true) (hr : ∀ w', ok w' → Runs P n D M o w' (.value v) w') (hd : dstB n o.dst = true) (hg : wantB ops M o.guard = some true) (k : AA P ops ok Q n D (putM M o.dst v) f (listed.setIfInBounds i true) w) : AA P ops ok Q n D M (f + 1) listed w := AA.mk fun a F => by
  simp only [rfB, Bool.and_eq_true] at hB
  exact pure_first hi (Region.noSelect_spec hB.2) f listed a w (Region.free_spec hi hB.1.2) (by simpa using hB.1.1) hw (.inl ⟨F.want hg, fun w' hw' => .inl (hr w' hw' a F)⟩) (k.h _ (F.put _ _ hd))
theorem AA.off (i : Nat) (hi : ops[i]? = some o) (hw : ok w) (hB : rfB ops listed i = true) (hd : dstB n o.dst = true) (hg : wantB ops M o.guard = some false) (k : AA P ops ok Q n D (putM M o.dst undef) f (listed.setIfInBounds i true) w) : AA P ops ok Q n D M (f + 1) listed w := AA.mk fun a F => by
  simp only [rfB, Bool.and_eq_true] at hB
  exact pure_first hi (Region.noSelect_spec hB.2) f listed a w (Region.free_spec hi hB.1.2) (by simpa using hB.1.1) hw (.inr ⟨F.want hg, rfl⟩) (k.h _ (F.put _ _ hd))
theorem AA.done (hr : Region.ready .any ops listed = []) (k : EE Q n D M .normal w) : AA P ops ok Q n D M f listed w := AA.mk fun a F => by
  cases f with
  | zero => exact ⟨hr, k.h a F⟩
  | succ f => exact ⟨fun _ => k.h a F, fun i hi => by rw [hr] at hi; cases hi⟩
theorem AA.fork (is : List Nat) (hr : Region.ready .any ops listed = is) (hne : is ≠ []) (k : ∀ i ∈ is, SR P ops ok i (fun M w => AA P ops ok Q n D M f (listed.setIfInBounds i true) w) n D M w) : AA P ops ok Q n D M (f + 1) listed w := AA.mk fun a F =>
  ⟨fun h => absurd (hr.symm.trans h) hne, fun i hi => (k i (by rw [← hr]; exact hi)).h _ (fun _ _ hk a F => hk.h a F) a F⟩
theorem AA.one (i : Nat) (hr : Region.ready .any ops listed = [i]) (k : SR P ops ok i (fun M w => AA P ops ok Q n D M f (listed.setIfInBounds i true) w) n D M w) : AA P ops ok Q n D M (f + 1) listed w := .fork [i] hr (by simp) (fun j hj => by simp at hj; subst hj; exact k)
theorem AA.two (i j : Nat) (hr : Region.ready .any ops listed = [i, j]) (k : SR P ops ok i (fun M w => AA P ops ok Q n D M f (listed.setIfInBounds i true) w) n D M w) (k2 : SR P ops ok j (fun M w => AA P ops ok Q n D M f (listed.setIfInBounds j true) w) n D M w) : AA P ops ok Q n D M (f + 1) listed w :=
  .fork [i, j] hr (by simp) (fun m hm => by simp at hm; rcases hm with rfl | rfl; exact k; exact k2)
theorem SR.val {i : Nat} {K : Slots → World → Prop} (hi : ops[i]? = some o) (hr : Runs P n D M o w (.value v) w') (hd : dstB n o.dst = true) (hg : wantB ops M o.guard = some true) (hok : ok w') (k : K (putM M o.dst v) w') : SR P ops ok i K n D M w := SR.mk fun K' hK a F => by
  unfold stepR
  simp only [hi]
  rw [if_pos (F.want hg)]
  exact .inl ⟨v, w', hr a F, hok, hK _ _ k _ (F.put _ _ hd)⟩
theorem SR.call {g : FuncId} {args : Array Value} {R : Ending → World → Prop} {i : Nat} {K : Slots → World → Prop} (hi : ops[i]? = some o) (hr : Runs P n D M o w (.enter g args) w') (hd : dstB n o.dst = true) (hg : wantB ops M o.guard = some true) (hc : Calls P g args w' R) (k : ∀ e w'', R e w'' → ∃ v, e = .returned v ∧ ok w'' ∧ K (putM M o.dst v) w'') : SR P ops ok i K n D M w := SR.mk fun K' hK a F => by
  unfold stepR
  simp only [hi]
  rw [if_pos (F.want hg)]
  exact .inr (.inr ⟨g, args, w', R, hr a F, hc, fun e w'' hR => by
    obtain ⟨v, he, h1, h2⟩ := k e w'' hR
    exact ⟨v, he, h1, hK _ _ h2 _ (F.put _ _ hd)⟩⟩)
end
end Go.Proofs.Ytajfffoaebjnlaa
/- Slices of structs: elements of k cells. For any seat. -/
namespace Go.Proofs.Ytajfffoaebjnlaa
set_option linter.unusedVariables false
set_option linter.unusedSimpArgs false
open Go.RowKit Go.Shelf

/-- How a thing lies in k cells. -/
structure Enc {α : Type} (enc : α → List Value) (k : Nat) : Prop where
  len : ∀ t, (enc t).length = k
  one : ∀ t, ∀ u ∈ enc t, u.oneCell' = true
  pos : 0 < k

section
variable {α : Type} {enc : α → List Value} {k : Nat}
theorem Enc.flat (E : Enc enc k) (ts : List α) : (ts.flatMap enc).length = ts.length * k := by
  induction ts with
  | nil => simp
  | cons t ts ih => rw [List.flatMap_cons, List.length_append, ih, E.len, List.length_cons, Nat.add_mul]; omega
theorem Enc.ones (E : Enc enc k) (ts : List α) : ∀ u ∈ ts.flatMap enc, u.oneCell' = true := fun u hu => by
  obtain ⟨t, _, h⟩ := List.mem_flatMap.1 hu
  exact E.one t u h
theorem Enc.get (E : Enc enc k) : ∀ (ts : List α) (i : Nat) (t : α), ts[i]? = some t → ∀ c, c < k → (ts.flatMap enc)[i * k + c]? = (enc t)[c]?
  | [], i, t, h, _, _ => by simp at h
  | s :: ts, 0, t, h, c, hc => by
    simp at h
    subst h
    rw [List.flatMap_cons, Nat.zero_mul, Nat.zero_add, List.getElem?_append_left (by rw [E.len]; exact hc)]
  | s :: ts, i + 1, t, h, c, hc => by
    have h' : ts[i]? = some t := by simpa using h
    have hp : i * k + k + c - k = i * k + c := by omega
    rw [List.flatMap_cons, List.getElem?_append_right (by rw [E.len, Nat.add_mul]; omega), E.len, Nat.add_mul, Nat.one_mul, hp]
    exact Enc.get E ts i t h' c hc
theorem Enc.drop (E : Enc enc k) (ts : List α) (i : Nat) : (ts.flatMap enc).drop (i * k) = (ts.drop i).flatMap enc := by
  induction i generalizing ts with
  | zero => simp
  | succ i ih =>
    cases ts with
    | nil => simp
    | cons t ts =>
      have hp : (i + 1) * k = k + i * k := by rw [Nat.add_mul]; omega
      rw [List.flatMap_cons, hp, ← List.drop_drop, List.drop_left' (E.len t), ih]
      simp
theorem Enc.take (E : Enc enc k) (ts : List α) (i : Nat) : (ts.flatMap enc).take (i * k) = (ts.take i).flatMap enc := by
  induction i generalizing ts with
  | zero => simp
  | succ i ih =>
    cases ts with
    | nil => simp
    | cons t ts =>
      have hp : (i + 1) * k = k + i * k := by rw [Nat.add_mul]; omega
      have hl := E.len t
      rw [List.flatMap_cons, hp, List.take_append, List.take_of_length_le (by omega), hl, Nat.add_sub_cancel_left, ih]
      simp

/-- A slice that reads as these things. -/
def ReadsT (enc : α → List Value) (k : Nat) (w : World) (v : Value) (ts : List α) : Prop :=
  ∃ a cap, v = .slice a ts.length cap ∧ ts.length ≤ cap ∧ (ts ≠ [] → ∃ b off, a = some ⟨b, off, none⟩ ∧ b < w.heap.size ∧ ∀ j, j < ts.length * k → w.cell? ⟨b, off + j, none⟩ = (ts.flatMap enc)[j]?)
theorem ReadsT.nil (w : World) : ReadsT enc k w (.slice none 0 0) [] := ⟨none, 0, rfl, Nat.le_refl _, fun h => (h rfl).elim⟩
theorem ReadsT.below {w w' : World} {v : Value} {ts : List α} (h : ReadsT enc k w v ts) (hb : Below w.heap.size w w') : ReadsT enc k w' v ts := by
  obtain ⟨a, cap, e, hc, h⟩ := h
  refine ⟨a, cap, e, hc, fun hne => ?_⟩
  obtain ⟨b, off, ha, hlt, hcell⟩ := h hne
  exact ⟨b, off, ha, Nat.lt_of_lt_of_le hlt hb.size, fun j hj => (World.cell?_of_block (hb.block b hlt)).trans (hcell j hj)⟩
theorem ReadsT.grown {w w' : World} {v : Value} {ts : List α} {r : Nat} (h : ReadsT enc k w v ts) (hg : w.grownBy w' (some r)) (hap : ∀ (x : Addr) (n cap : Nat), v = .slice (some x) n cap → 0 < n → x.block ≠ r) : ReadsT enc k w' v ts := by
  obtain ⟨a, cap, e, hc, h'⟩ := h
  refine ⟨a, cap, e, hc, fun hne => ?_⟩
  obtain ⟨b, off, ha, hlt, hcell⟩ := h' hne
  have hb : b ≠ r := hap ⟨b, off, none⟩ ts.length cap (by rw [e, ha]) (List.length_pos_iff.2 hne)
  exact ⟨b, off, ha, Nat.lt_of_lt_of_le hlt hg.size, fun j hj => (World.cell?_of_block (hg.block b hlt (by simpa using hb))).trans (hcell j hj)⟩
theorem ReadsT.form {w : World} {v : Value} {ts : List α} {n : Nat} (h : ReadsT enc k w v ts) (hn : ts.length = n) : ∃ a cap, v = .slice a n cap ∧ n ≤ cap := by
  obtain ⟨a, cap, e, hc, _⟩ := h
  exact ⟨a, cap, by rw [e, hn], by omega⟩
/-- An element: where it lies. -/
theorem ReadsT.get (E : Enc enc k) {w : World} {a : Option Addr} {n cap : Nat} {ts : List α} (h : ReadsT enc k w (.slice a n cap) ts) {i : Nat} {t : α} (ht : ts[i]? = some t) :
    ∃ b off, a = some ⟨b, off, none⟩ ∧ b < w.heap.size ∧ Cells w ⟨b, off + i * k, none⟩ (enc t) := by
  obtain ⟨a', cap', e, _, h1⟩ := h
  cases e
  have hi : i < ts.length := (List.getElem?_eq_some_iff.1 ht).1
  obtain ⟨b, off, ha, hb, hc⟩ := h1 (by intro e; simp [e] at hi)
  refine ⟨b, off, ha, hb, fun c u hu => ?_⟩
  have hck : c < k := by have := (List.getElem?_eq_some_iff.1 hu).1; rwa [E.len] at this
  have hlt : i * k + c < ts.length * k := by
    have : (i + 1) * k ≤ ts.length * k := Nat.mul_le_mul_right _ hi
    rw [Nat.add_mul] at this
    omega
  rw [add_plain, Nat.add_assoc, hc _ hlt, E.get ts i t ht c hck, hu]
theorem Cells.at {w : World} {b o : Nat} {vs : List Value} (h : Cells w ⟨b, o, none⟩ vs) {j : Nat} {u : Value} (hu : vs[j]? = some u) : w.cell? ⟨b, o + j, none⟩ = some u := by
  have := h j u hu
  rwa [add_plain] at this
theorem Cells.below {w w' : World} {b o B : Nat} {vs : List Value} (h : Cells w ⟨b, o, none⟩ vs) (hb : Below B w w') (hlt : b < B) : Cells w' ⟨b, o, none⟩ vs := fun j u hu => by
  have := h j u hu
  rw [add_plain] at *
  exact (hb.cell (p := ⟨b, o + j, none⟩) hlt).trans this
theorem ReadsT.take (E : Enc enc k) {w : World} {a : Option Addr} {len cap : Nat} {ts : List α} (h : ReadsT enc k w (.slice a len cap) ts) (m : Nat) (hm : m ≤ len) (c : Nat) (hc : m ≤ c) : ReadsT enc k w (.slice a m c) (ts.take m) := by
  obtain ⟨a', cap', e', hc', h'⟩ := h
  cases e'
  refine ⟨a, c, by simp [Nat.min_eq_left hm], by simp; omega, fun hne => ?_⟩
  obtain ⟨b, off, ha, hb, hcell⟩ := h' (by intro e; simp [e] at hne)
  refine ⟨b, off, ha, hb, fun j hj => ?_⟩
  rw [List.length_take, Nat.min_eq_left hm] at hj
  have h2 : m * k ≤ ts.length * k := Nat.mul_le_mul_right _ hm
  rw [hcell j (by omega), ← E.take, List.getElem?_take, if_pos hj]

/-- A slice of things that the call owns. -/
def OwnsT (enc : α → List Value) (k : Nat) (w : World) (base : Nat) (e : TypeId) (v : Value) (ts : List α) : Prop := w.ownsRow base e k v ts.length (ts.flatMap enc)
theorem OwnsT.none (w : World) (base : Nat) (e : TypeId) : OwnsT enc k w base e (.slice none 0 0) [] := ⟨by simp, .inl ⟨rfl, rfl⟩⟩
theorem OwnsT.reads (E : Enc enc k) {w : World} {base e : Nat} {v : Value} {ts : List α} (h : OwnsT enc k w base e v ts) : ReadsT enc k w v ts := by
  rcases h.2 with ⟨rfl, h0⟩ | ⟨g, cap, cur, rfl, _, hg, hnc, _, hcs, htake⟩
  · have : ts = [] := List.eq_nil_of_length_eq_zero h0
    subst this
    exact ReadsT.nil w
  · refine ⟨_, cap, rfl, hnc, fun _ => ⟨g, 0, rfl, (Array.getElem?_eq_some_iff.1 hg).1, fun j hj => ?_⟩⟩
    rw [← htake, List.getElem?_take, if_pos hj, Nat.zero_add]
    have hjc : j < cur.size := by rw [hcs]; exact Nat.lt_of_lt_of_le hj (Nat.mul_le_mul_right _ hnc)
    simp [World.cell?, hg, hjc]
theorem OwnsT.below {w1 w2 : World} {base e : Nat} {v : Value} {ts : List α} (h : OwnsT enc k w1 base e v ts) (hb : Below w1.heap.size w1 w2) : OwnsT enc k w2 base e v ts := by
  refine ⟨h.1, ?_⟩
  rcases h.2 with h2 | ⟨g, cap, cur, rfl, hbg, hg, h3⟩
  · exact .inl h2
  · exact .inr ⟨g, cap, cur, rfl, hbg, (hb.block g (Array.getElem?_eq_some_iff.1 hg).1).trans hg, h3⟩
theorem OwnsT.grown {w1 w2 : World} {base e g : Nat} {v : Value} {ts : List α} (h : OwnsT enc k w1 base e v ts) (hg : w1.grownBy w2 (some g)) (hne : v.ownBlock ≠ some g) : OwnsT enc k w2 base e v ts := by
  refine ⟨h.1, ?_⟩
  rcases h.2 with h2 | ⟨g', cap, cur, rfl, hbg, hb, h3⟩
  · exact .inl h2
  · exact .inr ⟨g', cap, cur, rfl, hbg, (hg.block g' (Array.getElem?_eq_some_iff.1 hb).1 (by intro e; cases e; exact hne rfl)).trans hb, h3⟩
theorem OwnsT.bel {w w' : World} {base e : Nat} {v : Value} {ts : List α} (h : OwnsT enc k w base e v ts) (hg : w.grownBy w' v.ownBlock) (hb : base ≤ w.heap.size) : Below base w w' :=
  (Below.refl base w).grown hg hb fun j ej => by
    rcases h.2 with ⟨rfl, _⟩ | ⟨g, cap, cur, rfl, hb, _, _⟩
    · simp [Value.ownBlock] at ej
    · obtain rfl : g = j := by simpa [Value.ownBlock] using ej
      exact hb
theorem RowL.readsT (E : Enc enc k) {w : World} {g e : Nat} {ts : List α} (h : RowL w g e (ts.flatMap enc)) (cap : Nat) (hc : ts.length ≤ cap) : ReadsT enc k w (.slice (some ⟨g, 0, none⟩) ts.length cap) ts :=
  ⟨_, cap, rfl, hc, fun _ => ⟨g, 0, rfl, h.lt, fun j hj => by
    have hj' : j < (ts.flatMap enc).length := by rw [E.flat]; exact hj
    rw [Nat.zero_add, h.cell (j := j) (u := (ts.flatMap enc)[j]) (by simp [hj'])]; simp [hj']⟩⟩
end

/-- The type of a slice of such elements. -/
structure ElT (P : Program) (T e : TypeId) (z : Value) (k bytes : Nat) : Prop where
  under : P.underlying T = some (.slice e)
  info : ∃ i, P.info? e = some i ∧ i.zero = some z ∧ i.size = k ∧ i.bytes = bytes
  many : z.cells.size = k

section
variable {α : Type} {enc : α → List Value} {k : Nat} {P : Program} {T e : TypeId} {z : Value} {bytes : Nat}
theorem ReadsT.from (E : Enc enc k) {w : World} {a : Option Addr} {len cap m : Nat} {ts : List α} (h : ReadsT enc k w (.slice a len cap) ts) (hm : m ≤ len) : ReadsT enc k w (.slice (if cap = m then a else a.map fun p => p.add (m * k)) (len - m) (cap - m)) (ts.drop m) := by
  obtain ⟨a', cap', e', hc', hr'⟩ := h
  cases e'
  by_cases hcm : cap = m
  · have : ts.drop m = [] := by simp; omega
    rw [this]
    refine ⟨_, _, by congr 1; simp; omega, by simp, fun hne => (hne rfl).elim⟩
  · rw [if_neg hcm]
    refine ⟨_, cap - m, by rw [List.length_drop], by simp; omega, fun hne => ?_⟩
    have hlt : m < ts.length := by
      rcases Nat.lt_or_ge m ts.length with hl | hl
      · exact hl
      · exact absurd (List.drop_eq_nil_of_le hl) hne
    obtain ⟨b, off, ha, hb, hcell⟩ := hr' (by intro e; simp [e] at hlt)
    subst ha
    refine ⟨b, off + m * k, by simp [Addr.add], hb, fun j hj => ?_⟩
    have hsplit : ts.length * k = m * k + (ts.length - m) * k := by rw [← Nat.add_mul]; congr 1; omega
    rw [List.length_drop] at hj
    rw [Nat.add_assoc, hcell (m * k + j) (by omega), ← E.drop, List.getElem?_drop]
/-- append, whether it grows or not. -/
theorem run_append_t (E : Enc enc k) (I : ElT P T e z k bytes) (ty : TypeId) {base : Nat} {v vx : Value} {ts us : List α} {w : World} (hown : OwnsT enc k w base e v ts) (hr : ReadsT enc k w vx us)
    (h63 : ts.length + us.length ≤ maxLen) (hb : (ts.length + us.length) * bytes ≤ 140737488355328) (hbase : base ≤ w.heap.size) :
    ∃ v' w', (Builtin.append_ #[T, T] ty #[v, vx]).run P w = .ok v' w' ∧ OwnsT enc k w' base e v' (ts ++ us) ∧ w.grownBy w' v.ownBlock := by
  obtain ⟨i, hi, hz, hsz, hby⟩ := I.info
  obtain ⟨a, cap, rfl, hc, hcell⟩ := hr
  cases a with
  | none =>
    have hus : us = [] := by
      rcases Classical.em (us = []) with h | h
      · exact h
      · obtain ⟨b, off, ha, _⟩ := hcell h
        cases ha
    subst hus
    rcases id hown.2 with ⟨rfl, h0⟩ | ⟨g, cp, cur, rfl, hbg, hg, hnc, hcm, hcs, htake⟩
    · exact ⟨_, w, run_append_nilnil w I.under hi cap, by simpa using hown, grown_refl w _⟩
    · exact ⟨_, w, run_append_nilsrc w I.under hi g _ cp cap hnc, by simpa using hown, grown_refl w _⟩
  | some p =>
    obtain ⟨v', w', h1, h2, h3, _⟩ := run_append_own (P := P) w base T ty e i z k bytes I.under hi hz hsz hby I.many E.pos v ts.length _ hown p us.length cap (us.flatMap enc) (E.flat us)
      (fun j u hj => by
        have hjl : j < us.length * k := by
          have := (List.getElem?_eq_some_iff.1 hj).1
          rwa [E.flat] at this
        have hne : us ≠ [] := by intro e; simp [e] at hj
        obtain ⟨b, off, ha, _, hh⟩ := hcell hne
        cases ha
        rw [Addr.add_lit, hh j hjl, hj]) (E.ones us) h63 hb hbase
    refine ⟨v', w', h1, ?_, h3⟩
    unfold OwnsT
    rw [List.length_append, List.flatMap_append]
    exact h2
end

section
variable {α : Type} {enc : α → List Value} {k : Nat} {P : Program} {w : World} {o : Oper} {n : Nat} {D : List Deferred} {M : Slots} {T e : TypeId} {z : Value} {bytes : Nat} {r : Option Nat} {ops : Array Oper} {Q : Exit → Act → World → Prop} {rest : List Oper}
end
end Go.Proofs.Ytajfffoaebjnlaa
/- append to a slice of structs that the call owns, told where the row lies behind it. -/
namespace Go.Proofs.Ytajfffoaebjnlaa
set_option linter.unusedVariables false
set_option linter.unusedSimpArgs false
open Go.RowKit Go.Shelf

section
variable {α : Type} {enc : α → List Value} {k : Nat} {P : Program} {T e : TypeId} {z : Value} {bytes : Nat}
theorem OwnsT.lower {w : World} {base base' : Nat} {v : Value} {ts : List α} (h : OwnsT enc k w base' e v ts) (hb : base ≤ base') : OwnsT enc k w base e v ts := by
  refine ⟨h.1, ?_⟩
  rcases h.2 with h2 | ⟨g, cap, cur, rfl, hbg, h3⟩
  · exact .inl h2
  · exact .inr ⟨g, cap, cur, rfl, by omega, h3⟩
theorem OwnsT.above {w : World} {base : Nat} {v : Value} {ts : List α} (h : OwnsT enc k w base e v ts) : v.ownBlock = Option.none ∨ ∃ b, v.ownBlock = some b ∧ base ≤ b ∧ b < w.heap.size := by
  rcases h.2 with ⟨rfl, _⟩ | ⟨g, cap, cur, rfl, hbg, hg, _⟩
  · exact .inl rfl
  · exact .inr ⟨g, rfl, hbg, (Array.getElem?_eq_some_iff.1 hg).1⟩
theorem run_append_t2 (E : Enc enc k) (I : ElT P T e z k bytes) (ty : TypeId) {base : Nat} {v vx : Value} {ts us : List α} {w : World} (hown : OwnsT enc k w base e v ts) (hr : ReadsT enc k w vx us)
    (h63 : ts.length + us.length ≤ maxLen) (hb : (ts.length + us.length) * bytes ≤ 140737488355328) (hbase : base ≤ w.heap.size) :
    ∃ v' w', (Builtin.append_ #[T, T] ty #[v, vx]).run P w = .ok v' w' ∧ OwnsT enc k w' base e v' (ts ++ us) ∧ w.grownBy w' v.ownBlock ∧ (v'.ownBlock = v.ownBlock ∨ ∃ b, v'.ownBlock = some b ∧ w.heap.size ≤ b) := by
  rcases id hown.2 with ⟨rfl, h0⟩ | ⟨g, cap, cur, rfl, hbg, hg, hnc, hcm, hcs, htake⟩
  · have : ts = [] := List.eq_nil_of_length_eq_zero h0
    subst this
    obtain ⟨v', w', h1, h2, h3⟩ := run_append_t (base := w.heap.size) E I ty (OwnsT.none w _ e) hr h63 hb (Nat.le_refl _)
    refine ⟨v', w', h1, h2.lower hbase, h3, ?_⟩
    rcases h2.above with h | ⟨b, h, hb, _⟩
    · exact .inl h
    · exact .inr ⟨b, h, hb⟩
  · obtain ⟨i, hi, hz, hsz, hby⟩ := I.info
    obtain ⟨a, cap2, rfl, hc, hcell⟩ := hr
    cases a with
    | none =>
      have hus : us = [] := by
        rcases Classical.em (us = []) with h | h
        · exact h
        · obtain ⟨b, off, ha, _⟩ := hcell h
          cases ha
      subst hus
      exact ⟨_, w, run_append_nilsrc w I.under hi g _ cap cap2 hnc, by simpa using hown, grown_refl w _, .inl rfl⟩
    | some p =>
      have hnews : ∀ j u, (us.flatMap enc)[j]? = some u → w.cell? (p.add j) = some u := fun j u hj => by
        have hjl : j < us.length * k := by
          have := (List.getElem?_eq_some_iff.1 hj).1
          rwa [E.flat] at this
        have hne : us ≠ [] := by intro e; simp [e] at hj
        obtain ⟨b, off, ha, _, hh⟩ := hcell hne
        cases ha
        rw [Addr.add_lit, hh j hjl, hj]
      by_cases hroom : ts.length + us.length ≤ cap
      · obtain ⟨w', h1, h2, h3⟩ := run_append_fits (P := P) (w := w) base T ty e i k I.under hi hsz g ts.length cap _ hown p us.length cap2 (us.flatMap enc) (E.flat us) hnews (E.ones us) hroom
        refine ⟨_, w', h1, ?_, h3, .inl rfl⟩
        unfold OwnsT
        rw [List.length_append, List.flatMap_append]
        exact h2
      · have holds : ∀ j u, (ts.flatMap enc)[j]? = some u → w.cell? ((⟨g, 0, none⟩ : Addr).add j) = some u := fun j u hj => by
          have hjl : j < ts.length * k := by
            have := (List.getElem?_eq_some_iff.1 hj).1
            rwa [E.flat] at this
          obtain ⟨_, _, e1, _, h⟩ := hown.reads E
          cases e1
          obtain ⟨b, off, ha, _, hh⟩ := h (by intro e; simp [e] at hj)
          cases ha
          rw [Addr.add_lit, hh j hjl, hj]
        obtain ⟨v', w', h1, h2, h3⟩ := run_append_arg_grows (P := P) (w := w) T ty e i z k bytes I.under hi hz hsz hby I.many E.pos ⟨g, 0, none⟩ ts.length cap (ts.flatMap enc) (E.flat ts) holds p us.length cap2 (us.flatMap enc) (E.flat us) hnews (by omega) h63 hb
        have h4 : OwnsT enc k w' w.heap.size e v' (ts ++ us) := by
          unfold OwnsT
          rw [List.length_append, List.flatMap_append]
          exact h2
        refine ⟨v', w', h1, h4.lower hbase, ⟨h3.os, h3.tape, h3.output, h3.size, fun j hj _ => h3.block j hj (by simp)⟩, ?_⟩
        rcases h4.above with h | ⟨b, h, hb, _⟩
        · exfalso
          rcases h2.2 with ⟨_, h0⟩ | ⟨g', cap', cur', rfl, _⟩
          · omega
          · simp [Value.ownBlock] at h
        · exact .inr ⟨b, h, hb⟩
end

section
variable {α : Type} {enc : α → List Value} {k : Nat} {P : Program} {w : World} {o : Oper} {n : Nat} {D : List Deferred} {M : Slots} {T e : TypeId} {z : Value} {bytes : Nat} {r : Option Nat} {ops : Array Oper} {Q : Exit → Act → World → Prop} {rest : List Oper}
theorem LL.appendT2 {xs : Array Operand} {v vx : Value} {base : Nat} {ts us : List α} (ho : o.op = .call { callee := .builtin .append, args := xs, argTypes := #[T, T] }) (hx : evsM M xs.toList = some [v, vx]) (E : Enc enc k) (I : ElT P T e z k bytes) (hown : OwnsT enc k w base e v ts) (hr : ReadsT enc k w vx us)
    (h63 : ts.length + us.length ≤ maxLen) (hb : (ts.length + us.length) * bytes ≤ 140737488355328) (hbase : base ≤ w.heap.size) (hd : dstB n o.dst = true) (hg : wantB ops M o.guard = some true)
    (c : ∀ v' w', OwnsT enc k w' base e v' (ts ++ us) → w.grownBy w' v.ownBlock → (v'.ownBlock = v.ownBlock ∨ ∃ b, v'.ownBlock = some b ∧ w.heap.size ≤ b) → LL r P ops Q n D (putM M o.dst v') rest w') : LL r P ops Q n D M (o :: rest) w := by
  obtain ⟨v', w', h1, h2, h3, h4⟩ := run_append_t2 E I o.type hown hr h63 hb hbase
  refine LL.val (v := v') (R.builtin ho hx fun b => ?_) hd (by rw [ho]; rfl) hg (c v' w' h2 h3 h4)
  unfold builtin
  simp only [Sem.run_bind, h1, Result.andThen_ok, Sem.run_pure]
end
end Go.Proofs.Ytajfffoaebjnlaa
/- clear behind the end of a slice of structs that the call owns; s[lo:hi]. -/
namespace Go.Proofs.Ytajfffoaebjnlaa
set_option linter.unusedVariables false
set_option linter.unusedSimpArgs false
open Go.RowKit Go.Shelf

section
variable {α : Type} {enc : α → List Value} {k : Nat} {P : Program} {T e : TypeId} {z : Value} {bytes : Nat}
end
end Go.Proofs.Ytajfffoaebjnlaa
/- An element of a slice of structs that the call owns, stored anew; the first elements of one. -/
namespace Go.Proofs.Ytajfffoaebjnlaa
set_option linter.unusedVariables false
set_option linter.unusedSimpArgs false
open Go.RowKit Go.Shelf

section
variable {α : Type} {enc : α → List Value} {k : Nat}
theorem Enc.set (E : Enc enc k) (ts : List α) (i : Nat) (t : α) (h : i < ts.length) : (ts.set i t).flatMap enc = (ts.flatMap enc).take (i * k) ++ enc t ++ (ts.flatMap enc).drop (i * k + k) := by
  have hp : i * k + k = (i + 1) * k := by rw [Nat.add_mul]; omega
  rw [List.set_eq_take_append_cons_drop, if_pos h, List.flatMap_append, List.flatMap_cons, hp, E.drop, E.take, List.append_assoc]
theorem OwnsT.block {w : World} {base e : Nat} {v : Value} {ts : List α} (h : OwnsT enc k w base e v ts) : (v = .slice Option.none 0 0 ∧ ts = []) ∨ ∃ g cap, v = .slice (some ⟨g, 0, Option.none⟩) ts.length cap ∧ ts.length ≤ cap ∧ base ≤ g ∧ g < w.heap.size := by
  rcases h.2 with ⟨e1, h0⟩ | ⟨g, cap, cur, e1, hbg, hg, hnc, _⟩
  · exact .inl ⟨e1, List.eq_nil_of_length_eq_zero h0⟩
  · exact .inr ⟨g, cap, e1, hnc, hbg, (Array.getElem?_eq_some_iff.1 hg).1⟩
end

section
variable {α : Type} {enc : α → List Value} {k : Nat} {P : Program} {w : World} {o : Oper} {n : Nat} {D : List Deferred} {M : Slots} {T e : TypeId} {z : Value} {bytes : Nat} {r : Option Nat} {ops : Array Oper} {Q : Exit → Act → World → Prop} {rest : List Oper}
end
end Go.Proofs.Ytajfffoaebjnlaa
/- A field of an element of a slice of structs that the call owns, stored anew. -/
namespace Go.Proofs.Ytajfffoaebjnlaa
set_option linter.unusedVariables false
set_option linter.unusedSimpArgs false
open Go.RowKit Go.Shelf

section
variable {α : Type} {enc : α → List Value} {k : Nat} {P : Program} {e : TypeId} {r : Option Nat} {ops : Array Oper} {Q : Exit → Act → World → Prop} {rest : List Oper} {w : World} {n : Nat} {D : List Deferred} {M : Slots} {o : Oper}
theorem Enc.setF (E : Enc enc k) (ts : List α) (i c : Nat) (t u : α) (v : Value) (ht : ts[i]? = some t) (hc : c < k) (hu : enc u = (enc t).set c v) : (ts.flatMap enc).set (i * k + c) v = (ts.set i u).flatMap enc := by
  have hi : i < ts.length := (List.getElem?_eq_some_iff.1 ht).1
  have hlen := E.flat ts
  have hin : i * k + k ≤ ts.length * k := by
    have : (i + 1) * k ≤ ts.length * k := Nat.mul_le_mul_right _ hi
    rw [Nat.add_mul] at this
    omega
  have hself : ts.set i t = ts := by
    rw [List.getElem?_eq_getElem hi] at ht
    cases ht
    simp
  have h0 := E.set ts i t hi
  rw [hself] at h0
  have hA : ((ts.flatMap enc).take (i * k)).length = i * k := by rw [List.length_take]; omega
  rw [E.set ts i u hi]
  conv => lhs; rw [h0]
  rw [List.append_assoc, List.set_append_right _ _ (by rw [hA]; omega), hA, show i * k + c - i * k = c by omega, List.set_append_left _ _ (by rw [E.len]; exact hc), ← hu, List.append_assoc]
end
end Go.Proofs.Ytajfffoaebjnlaa
/- Which rows are kept: a set of them. And a scope in which the run jumps back to a label at its beginning. -/
namespace Go.Proofs.Ytajfffoaebjnlaa
set_option linter.unusedVariables false
set_option linter.unusedSimpArgs false
open Go.RowKit Go.Shelf

/-- The rows of K are as they were. -/
structure Kept (K : Nat → Prop) (w w' : World) : Prop where
  os : w'.os = w.os
  tape : w'.tape = w.tape
  output : w'.output = w.output
  size : w.heap.size ≤ w'.heap.size
  block : ∀ j, K j → w'.heap[j]? = w.heap[j]?
section
variable {K K' : Nat → Prop} {w w1 w2 : World}
theorem Kept.refl (K : Nat → Prop) (w : World) : Kept K w w := ⟨rfl, rfl, rfl, Nat.le_refl _, fun _ _ => rfl⟩
theorem Kept.trans (h : Kept K w w1) (h2 : Kept K w1 w2) : Kept K w w2 := ⟨h2.os.trans h.os, h2.tape.trans h.tape, h2.output.trans h.output, Nat.le_trans h.size h2.size, fun j hj => (h2.block j hj).trans (h.block j hj)⟩
theorem bkept {B : Nat} (h : Below B w w1) (hk : ∀ j, K j → j < B) : Kept K w w1 := ⟨h.os, h.tape, h.output, h.size, fun j hj => h.block j (hk j hj)⟩
theorem grown_kept {r : Option Nat} (h : w.grownBy w1 r) (hk : ∀ j, K j → j < w.heap.size) (hr : ∀ j, K j → r ≠ some j) : Kept K w w1 := ⟨h.os, h.tape, h.output, h.size, fun j hj => h.block j (hk j hj) (by first | exact fun e => hr j hj e | exact fun e => hr j hj e.symm)⟩
theorem Kept.bel {B : Nat} (h : Kept (· < B) w w1) : Below B w w1 := ⟨h.os, h.tape, h.output, h.size, fun j hj => h.block j hj⟩
theorem RowL.kept {g e : Nat} {xs : List Value} (h : RowL w g e xs) (hk : Kept K w w1) (hg : K g) : RowL w1 g e xs := h.same (hk.block g hg)
end

section
variable {P : Program} {w : World} {n : Nat} {D : List Deferred} {M : Slots} {Q : Exit → Act → World → Prop}
theorem EE.jump {α : Type} {l : Nat} {L : α → List (Nat × Value)} {I : α → World → Prop} {μ : α → Nat} {p : α} (p' : α) (hL : Fits M (L p')) (hI : I p' w) (hμ : μ p' < μ p) : EE (Exit.jump l (fun a' w' => ∃ p', Fr n D (sl (L p')) a' ∧ I p' w' ∧ μ p' < μ p) Q) n D M (.goto l) w := EE.mk fun _ F => ⟨rfl, p', F.keep _ hL, hI, hμ⟩
end
end Go.Proofs.Ytajfffoaebjnlaa
/- What is known of a world, carried over to a later one: .up over what makes memory, .gr over what writes one block. For any seat. -/
namespace Go.Proofs.Ytajfffoaebjnlaa
set_option linter.unusedVariables false
set_option linter.unusedSimpArgs false
open Go.RowKit Go.Shelf

section
variable {w w' : World} {g e r k : Nat} {xs : List Value} {v : Value} {α : Type} {enc : α → List Value} {ts : List α} {base : Nat}
theorem RowL.up (h : RowL w g e xs) (hb : Below w.heap.size w w') : RowL w' g e xs := h.below hb h.lt
theorem RowL.gr (h : RowL w g e xs) (hg : w.grownBy w' (some r)) (hne : g ≠ r) : RowL w' g e xs := h.same (hg.block g h.lt (by simpa using hne))
theorem Reads.up (h : Reads w v xs) (hb : Below w.heap.size w w') : Reads w' v xs := h.below hb
theorem ReadsT.up (h : ReadsT enc k w v ts) (hb : Below w.heap.size w w') : ReadsT enc k w' v ts := h.below hb
theorem OwnsT.up (h : OwnsT enc k w base e v ts) (hb : Below w.heap.size w w') : OwnsT enc k w' base e v ts := h.below hb
theorem defer_up {E : Nat} (h : w.heap[E]? = some (.deferred (some []))) (hb : Below w.heap.size w w') : w'.heap[E]? = some (.deferred (some [])) := (hb.block E (Array.getElem?_eq_some_iff.1 h).1).trans h
end

/-! Truth values of one cell. -/
/-- An element of one cell. -/
theorem ReadsT.one {α : Type} {enc : α → List Value} (E : Enc enc 1) {w : World} {a : Option Addr} {n cap i : Nat} {ts : List α} {t : α} (h : ReadsT enc 1 w (.slice a n cap) ts) (ht : ts[i]? = some t) :
    ∃ b off, a = some ⟨b, off, none⟩ ∧ b < w.heap.size ∧ ∀ u, enc t = [u] → w.cell? ⟨b, off + i, none⟩ = some u := by
  obtain ⟨b, off, ea, hb, hc⟩ := h.get E ht
  refine ⟨b, off, ea, hb, fun u hu => ?_⟩
  have := hc.at (j := 0) (u := u) (by rw [hu]; rfl)
  rwa [Nat.mul_one, Nat.add_zero] at this
end Go.Proofs.Ytajfffoaebjnlaa
/- What the tool that writes walks (tools/WDev.lean) takes: comparisons that part the walk, regions that draw their order over a world that is named anew, loads of structs. -/
namespace Go.Proofs.Ytajfffoaebjnlaa
set_option linter.unusedVariables false
set_option linter.unusedSimpArgs false
open Go.RowKit Go.Shelf
section
variable {P : Program} {ops : Array Oper} {w w' : World} {o : Oper} {rest : List Oper} {n : Nat} {D : List Deferred} {M : Slots} {v : Value} {r : Option Nat} {Q : Exit → Act → World → Prop}
theorem LL.vsplit {p : Prop} [Decidable p] (ht : p → Runs P n D M o w (.value (.bool true)) w) (hf : ¬p → Runs P n D M o w (.value (.bool false)) w) (hd : dstB n o.dst = true) (hdf : dfB o.op = false) (hg : wantB ops M o.guard = some true)
    (k1 : p → LL r P ops Q n D (putM M o.dst (.bool true)) rest w) (k2 : ¬p → LL r P ops Q n D (putM M o.dst (.bool false)) rest w) : LL r P ops Q n D M (o :: rest) w := by
  by_cases h : p
  · exact LL.val (ht h) hd hdf hg (k1 h)
  · exact LL.val (hf h) hd hdf hg (k2 h)
theorem SS.vsplit {R : Act → Prop} {p : Prop} [Decidable p] (ht : p → Runs P n D M o w (.value (.bool true)) w) (hf : ¬p → Runs P n D M o w (.value (.bool false)) w) (hd : dstB n o.dst = true) (hg : wantB ops M o.guard = some true)
    (k1 : p → SS P ops w R n D (putM M o.dst (.bool true)) rest) (k2 : ¬p → SS P ops w R n D (putM M o.dst (.bool false)) rest) : SS P ops w R n D M (o :: rest) := by
  by_cases h : p
  · exact SS.val (ht h) hd hg (k1 h)
  · exact SS.val (hf h) hd hg (k2 h)
/-- A region that draws its order and leaves memory alone; the world behind the draw is any one like it. -/
theorem CC.quietB {id : Nat} {l : List Oper} (hm : P.follows .mixedOrders = true) (hB : (Region.lexB .any l.toArray && l.all fun o => !dfB o.op) = true)
    (h : ∀ w1, Below w.heap.size w w1 → w1.heap.size = w.heap.size → SS P l.toArray w1 (fun a => Q .normal a w1) n D M l) : CC r P Q n D M (.region id l.toArray true) w :=
  CC.quiet hm hB (h _ below_drew rfl)
theorem CC.tailB {id : Nat} {l : List Oper} (m : Nat) (hm : P.follows .mixedOrders = true) (hB : (Region.lexTailB .any l.toArray m && l.all fun o => !dfB o.op) = true)
    (h : ∀ w1, Below w.heap.size w w1 → w1.heap.size = w.heap.size → SS P l.toArray w1 (fun a => wpListIn (Wr r) 3 P l.toArray Q (l.drop m) a w1) n D M (l.take m)) : CC r P Q n D M (.region id l.toArray true) w :=
  CC.tail m hm hB (h _ below_drew rfl)
/-! Calls that tell a truth value. -/
theorem R.addIz {x y : Operand} {t u : TypeId} {a b z : Int} (ho : o.op = .binOp .add t x y u) (hx : evM M x = some (.int .i64 a)) (hy : evM M y = some (.int .i64 b)) (e : a + b = z) (h : -9223372036854775808 ≤ z ∧ z ≤ 9223372036854775807) : Runs P n D M o w (.value (.int .i64 z)) w := by subst e; exact R.addI ho hx hy h
theorem R.remIc {x y : Operand} {t u : TypeId} {a : Int} {b : Nat} (hlit : Nat.ble b 18446744073709551616 = true) (ho : o.op = .binOp .rem t x y u) (hx : evM M x = some (.int .i64 a)) (hy : evM M y = some (.int .i64 (@OfNat.ofNat Int b instOfNat))) (h0 : 0 ≤ a) (h : 0 < (@OfNat.ofNat Nat b (instOfNatNat b))) : Runs P n D M o w (.value (.int .i64 (a % (@OfNat.ofNat Int b instOfNat)))) w := by
  obtain ⟨m, rfl⟩ := Int.eq_ofNat_of_zero_le h0
  exact R.remNc hlit ho hx hy h
theorem lvNc {t : TypeId} {p : Addr} {vs : List Value} (hc : Cells w p vs) (hT : aggB P t = true) (hz : szB P t = some vs.length) : (loadVar t p).run P w = .ok (.agg vs.toArray) w := lvN hT hz hc
theorem RowL.cells0 {g e : Nat} {xs : List Value} (h : RowL w g e xs) : Cells w ⟨g, 0, none⟩ xs := h.cells (by simp)
theorem ones_of {vs : List Value} (h : (vs.all fun u => u.oneCell') = true) : ∀ u ∈ vs, u.oneCell' = true := List.all_eq_true.1 h
theorem wrapI {m : Int} (h1 : -9223372036854775808 ≤ m) (h2 : m ≤ 9223372036854775807) : IntKind.i64.wrap m = m := by
  simp [IntKind.wrap, IntKind.bits, IntKind.signed]
  omega
end
end Go.Proofs.Ytajfffoaebjnlaa
/- Regions that draw their order, whose steps yield the same values in whatever world that is left as it is but for new memory: one walk for all orders, calls that make memory of their own among them. Over any program. -/
namespace Go.Proofs.Ytajfffoaebjnlaa
set_option linter.unusedVariables false
set_option linter.unusedSimpArgs false
open Go.RowKit Go.Shelf

section
variable {P : Program} {ops : Array Oper} {Q : Exit → Act → World → Prop} {ok : World → Prop} {r : Option Nat} {v : Value} {o : Oper}

/-- It yields v in all these worlds, and leaves one of them. -/
def YG (P : Program) (ops : Array Oper) (ok : World → Prop) (o : Oper) (v : Value) (a : Act) : Prop :=
  (Region.wanted o (yielded ops a.tmps) = true ∧ ∀ w, ok w → (execOp a.eval o).run P w = .ok (.value v) w ∨ ∃ f args, (execOp a.eval o).run P w = .ok (.enter f args) w ∧ Calls P f args w (fun e w' => e = .returned v ∧ ok w')) ∨
  (Region.wanted o (yielded ops a.tmps) = false ∧ v = undef)
def stG (P : Program) (ops : Array Oper) (ok : World → Prop) (i : Nat) (K : Act → Prop) (a : Act) : Prop :=
  match ops[i]? with
  | none => K a
  | some o => ∃ v, YG P ops ok o v a ∧ K (a.put o.dst v)
theorem stG_mono {i : Nat} {K K' : Act → Prop} {a : Act} (h : ∀ a, K a → K' a) (hh : stG P ops ok i K a) : stG P ops ok i K' a := by
  unfold stG at *
  split
  · rename_i ho; simp only [ho] at hh; exact h _ hh
  · rename_i o ho; simp only [ho] at hh; obtain ⟨v, h1, h2⟩ := hh; exact ⟨v, h1, h _ h2⟩
theorem YG.same {a a' : Act} (hy : YG P ops ok o v a) (he : execOp a'.eval o = execOp a.eval o) (hw : Region.wanted o (yielded ops a'.tmps) = Region.wanted o (yielded ops a.tmps)) : YG P ops ok o v a' := by
  unfold YG at *
  rw [he, hw]
  exact hy
theorem stG_put {j : Nat} {oi oj : Oper} {a : Act} (hj : ops[j]? = some oj) (hap : oi.apart ops oj = true) (hsi : ∀ cs b, oi.op ≠ .select cs b) (hsj : ∀ cs b, oj.op ≠ .select cs b) {K : Act → Prop}
    (hy : YG P ops ok oi v a) (h : stG P ops ok j K (a.put oi.dst v)) : stG P ops ok j (fun a' => YG P ops ok oi v a' ∧ K (a'.put oi.dst v)) a := by
  obtain ⟨h1, h2, h3⟩ := Oper.apart_spec hap
  unfold stG at *
  simp only [hj] at *
  obtain ⟨u, e1, e2⟩ := h
  exact ⟨u, e1.same (execOp_put oj hsj a oi.dst v h1).symm (wanted_put oj a oi.dst v h1).symm, hy.same (execOp_put oi hsi a oj.dst u h3) (wanted_put oi a oj.dst u h3), by rw [← Act.put_comm a v u h2]; exact e2⟩
theorem wpIn_of_YG {a : Act} {w : World} {K : Act → World → Prop} (hdf : dfB o.op = false) (hw : ok w) (hwt : Region.wanted o (yielded ops a.tmps) = true) (hy : YG P ops ok o v a) (hk : ∀ w', ok w' → K (a.put o.dst v) w') : o.wpIn (Wr r) 3 P a w K Q := by
  rcases hy with ⟨_, hv⟩ | ⟨h, _⟩
  · rcases hv w hw with h1 | ⟨f, args, h1, hc⟩
    · exact wpIn_of_run hdf h1 (hk w hw)
    · exact wpIn_of_run hdf h1 ⟨fun h => (by cases h), callsWr (hc.mono fun e w' ⟨he, hw'⟩ => by subst he; exact hk w' hw')⟩
  · rw [hwt] at h; cases h
theorem wpOpIn_of_stG {i : Nat} {a : Act} {w : World} {K : Act → Prop} {K' : Act → World → Prop} (hdf : ∀ (j : Nat) (o : Oper), ops[j]? = some o → dfB o.op = false) (hw : ok w) (h : ∀ a w, ok w → K a → K' a w) (hh : stG P ops ok i K a) : wpOpIn (Wr r) 3 P ops Q i K' a w := by
  unfold stG at hh
  unfold wpOpIn
  split
  · rename_i ho; simp only [ho] at hh; exact h _ _ hw hh
  · rename_i o ho
    simp only [ho] at hh
    obtain ⟨v, hy, hk⟩ := hh
    split
    · rename_i hwt; exact wpIn_of_YG (hdf _ _ ho) hw hwt hy fun w' hw' => h _ _ hw' hk
    · rename_i hwt
      rcases hy with ⟨h1, _⟩ | ⟨_, rfl⟩
      · exact absurd h1 hwt
      · exact ⟨about_wr a, h _ _ hw hk⟩
theorem YG.stG {i : Nat} {a : Act} {K : Act → Prop} (hi : ops[i]? = some o) (hy : YG P ops ok o v a) (h : K (a.put o.dst v)) : stG P ops ok i K a := by
  unfold Proofs.Ytajfffoaebjnlaa.stG
  simp only [hi]
  exact ⟨v, hy, h⟩
/-- One walk, in the order of the text. -/
def walkG (P : Program) (ops : Array Oper) (ok : World → Prop) (K : Act → Prop) : List Oper → Act → Prop
  | [], a => K a
  | o :: l, a => ∃ v, YG P ops ok o v a ∧ walkG P ops ok K l (a.put o.dst v)
/-- The same with a tail that follows in one order. -/
def HeadG (P : Program) (ops : Array Oper) (ok : World → Prop) (n : Nat) (L : Array Bool → Act → Prop) : Nat → Array Bool → Act → Prop
  | 0, listed, a => L listed a
  | f + 1, listed, a => Region.ready .any ops listed ≠ [] ∧ ∀ i ∈ Region.ready .any ops listed, i < n ∧ stG P ops ok i (HeadG P ops ok n L f (listed.setIfInBounds i true)) a
theorem HeadG_first {n i : Nat} {oi : Oper} {L : Array Bool → Act → Prop} (hi : ops[i]? = some oi) (hsel : ∀ (j : Nat) (o : Oper) cs b, ops[j]? = some o → o.op ≠ .select cs b)
    (hs : Region.sinkB .any ops n = true) (hc : Region.chainB .any ops n = true) (hn : n < ops.size) (hin : i < n)
    (hdone : ∀ listed a, L listed a → ∀ j ∈ Region.ready .any ops listed, n ≤ j) :
    ∀ (f : Nat) (listed : Array Bool) (a : Act), HeadInv .any ops n listed →
      (∀ j oj, ops[j]? = some oj → j ≠ i → listed.getD j true = false → (∀ e ∈ oj.after, Region.binds .any e = true → e.on ≠ i) → oi.apart ops oj = true) →
      i ∈ Region.ready .any ops listed → YG P ops ok oi v a →
      HeadG P ops ok n L f (listed.setIfInBounds i true) (a.put oi.dst v) → HeadG P ops ok n L (f + 1) listed a := by
  intro f
  induction f with
  | zero =>
    intro listed a inv _ hr hy H
    have hun := (mem_ready.1 hr).1
    refine ⟨fun h => (by rw [h] at hr; cases hr), fun j hj => ?_⟩
    have hjn : j < n := by
      rcases Nat.lt_or_ge j n with h | h
      · exact h
      · exact absurd hj (tail_waits hs hc hn inv _ i rfl hin hun j h)
    refine ⟨hjn, ?_⟩
    by_cases hji : j = i
    · subst hji; exact hy.stG hi H
    · have := hdone _ _ H j (ready_mono hj hji)
      omega
  | succ f ih =>
    intro listed a inv hfree hr hy H
    have hun := (mem_ready.1 hr).1
    refine ⟨fun h => (by rw [h] at hr; cases hr), fun j hj => ?_⟩
    have hjn : j < n := by
      rcases Nat.lt_or_ge j n with h | h
      · exact h
      · exact absurd hj (tail_waits hs hc hn inv _ i rfl hin hun j h)
    refine ⟨hjn, ?_⟩
    by_cases hji : j = i
    · subst hji; exact hy.stG hi H
    · have h1 := (H.2 j (ready_mono hj hji)).2
      obtain ⟨hjun, oj, hoj, hall⟩ := mem_ready.1 hj
      have hnot : ∀ e ∈ oj.after, Region.binds .any e = true → e.on ≠ i := fun e he hb heq => by
        have h1 := hall e he hb
        rw [heq, getD_both hun] at h1
        cases h1
      have h2 := stG_put hoj (hfree j oj hoj hji hjun hnot) (fun cs b => hsel i oi cs b hi) (fun cs b => hsel j oj cs b hoj) hy h1
      have hfree' : ∀ k ok', ops[k]? = some ok' → k ≠ i → (listed.setIfInBounds j true).getD k true = false →
          (∀ e ∈ ok'.after, Region.binds .any e = true → e.on ≠ i) → oi.apart ops ok' = true := fun k ok' hk hki hun hno => by
        refine hfree k ok' hk hki ?_ hno
        by_cases hjk : j = k
        · subst hjk; exact hjun
        · rw [getD_set_ne true hjk] at hun; exact hun
      refine stG_mono (fun a' h3 => ih (listed.setIfInBounds j true) a' (inv.set hj hjn) hfree' (ready_mono hr (Ne.symm hji)) h3.1 ?_) h2
      rw [Array.setIfInBounds_comm _ _ hji]
      exact h3.2
theorem HeadG_lex {n g : Nat} {Lq : Act → Prop} (hsel : Region.noSelect ops = true) (hs : Region.sinkB .any ops n = true) (hc : Region.chainB .any ops n = true) (hn : n < ops.size) :
    ∀ (l : List Oper) (k : Nat) (listed : Array Bool) (a : Act), (∀ j, j < l.length → l[j]? = ops[k + j]?) → k + l.length = n → HeadInv .any ops n listed →
    Region.lexHead .any ops g l.length k listed = true → walkG P ops ok Lq l a →
    HeadG P ops ok n (fun listed' a' => Region.seqB .any ops g n listed' = true ∧ Lq a') l.length listed a
  | [], k, listed, a, _, hk, _, hB, h => by
    have : k = n := by simpa using hk
    subst this
    exact ⟨by simpa [Region.lexHead] using hB, h⟩
  | o :: l, k, listed, a, hl, hk, inv, hB, h => by
    have h0 : ops[k]? = some o := by simpa using (hl 0 (by simp)).symm
    simp only [List.length_cons, Region.lexHead, Bool.and_eq_true] at hB
    obtain ⟨⟨hr, hf⟩, hB'⟩ := hB
    have hkn : k < n := by simp only [List.length_cons] at hk; omega
    have hr' : k ∈ Region.ready .any ops listed := by simpa using hr
    obtain ⟨v, hy, hK⟩ := h
    exact HeadG_first h0 (Region.noSelect_spec hsel) hs hc hn hkn (fun listed' a' hL => seqB_ready hL.1) l.length listed a inv (Region.free_spec h0 hf) hr' hy
      (HeadG_lex hsel hs hc hn l (k + 1) _ _ (fun j hj => by have := hl (j + 1) (by simp; omega); simpa [Nat.add_assoc, Nat.add_comm 1 j] using this) (by simp only [List.length_cons] at hk; omega) (inv.set hr' hkn) hB' hK)
theorem wpAnyIn_of_HeadG {n g : Nat} {L : Array Bool → Act → Prop} (hdf : ∀ (j : Nat) (o : Oper), ops[j]? = some o → dfB o.op = false) (hL : ∀ listed a w, ok w → L listed a → wpAnyIn (Wr r) 3 P .any ops Q g listed a w) :
    ∀ (f : Nat) (listed : Array Bool) (a : Act) (w : World), ok w → HeadG P ops ok n L f listed a → wpAnyIn (Wr r) 3 P .any ops Q (f + g) listed a w
  | 0, listed, a, w, hw, h => by rw [Nat.zero_add]; exact hL _ _ _ hw h
  | f + 1, listed, a, w, hw, h => by
    rw [show f + 1 + g = (f + g) + 1 by omega]
    exact ⟨fun h0 => absurd h0 h.1, fun i hi => wpOpIn_of_stG hdf hw (fun a' w' hw' h' => wpAnyIn_of_HeadG hdf hL f _ a' w' hw' h') (h.2 i hi).2⟩

/-! Goals. -/
structure GG (P : Program) (ops : Array Oper) (ok : World → Prop) (K : Act → Prop) (n : Nat) (D : List Deferred) (M : Slots) (l : List Oper) : Prop where
  h : ∀ a, Fr n D M a → walkG P ops ok K l a
variable {n : Nat} {D : List Deferred} {M : Slots} {rest l : List Oper} {K : Act → Prop} {w : World}
theorem GG.val (hr : ∀ w, ok w → Runs P n D M o w (.value v) w) (hd : dstB n o.dst = true) (hg : wantB ops M o.guard = some true) (k : GG P ops ok K n D (putM M o.dst v) rest) : GG P ops ok K n D M (o :: rest) := GG.mk fun a F =>
  ⟨v, .inl ⟨F.want hg, fun w hw => .inl (hr w hw a F)⟩, k.h _ (F.put _ _ hd)⟩
theorem GG.skip (hd : dstB n o.dst = true) (hg : wantB ops M o.guard = some false) (k : GG P ops ok K n D (putM M o.dst undef) rest) : GG P ops ok K n D M (o :: rest) := GG.mk fun a F =>
  ⟨undef, .inr ⟨F.want hg, rfl⟩, k.h _ (F.put _ _ hd)⟩
theorem GG.call {f : FuncId} {args : Array Value} (hr : ∀ w, Runs P n D M o w (.enter f args) w) (hd : dstB n o.dst = true) (hg : wantB ops M o.guard = some true) (hc : ∀ w, ok w → Calls P f args w fun e w' => e = .returned v ∧ ok w') (k : GG P ops ok K n D (putM M o.dst v) rest) : GG P ops ok K n D M (o :: rest) := GG.mk fun a F =>
  ⟨v, .inl ⟨F.want hg, fun w hw => .inr ⟨f, args, hr w a F, hc w hw⟩⟩, k.h _ (F.put _ _ hd)⟩
theorem GG.vsplit {p : Prop} [Decidable p] (ht : p → ∀ w, ok w → Runs P n D M o w (.value (.bool true)) w) (hf : ¬p → ∀ w, ok w → Runs P n D M o w (.value (.bool false)) w) (hd : dstB n o.dst = true) (hg : wantB ops M o.guard = some true)
    (k1 : p → GG P ops ok K n D (putM M o.dst (.bool true)) rest) (k2 : ¬p → GG P ops ok K n D (putM M o.dst (.bool false)) rest) : GG P ops ok K n D M (o :: rest) := by
  by_cases h : p
  · exact GG.val (ht h) hd hg (k1 h)
  · exact GG.val (hf h) hd hg (k2 h)
theorem GG.nil (k : ∀ w, ok w → LL r P ops Q n D M l w) : GG P ops ok (fun a => ∀ w, ok w → wpListIn (Wr r) 3 P ops Q l a w) n D M [] := GG.mk fun a F w hw => (k w hw).h a F
theorem GG.nilQ (k : ∀ w, ok w → EE Q n D M .normal w) : GG P ops ok (fun a => ∀ w, ok w → Q .normal a w) n D M [] := GG.mk fun a F w hw => (k w hw).h a F
theorem GG.keep (L : List (Nat × Value)) (hL : Fits M L) (h : GG P ops ok K n D (sl L) rest) : GG P ops ok K n D M rest := GG.mk fun a F => h.h a (F.keep L hL)
theorem CC.growT {id : Nat} (m : Nat) (hm : P.follows .mixedOrders = true) (hB : (Region.lexTailB .any l.toArray m && l.all fun o => !dfB o.op) = true)
    (h : GG P l.toArray (fun W => Below w.heap.size w W) (fun a => ∀ W, Below w.heap.size w W → wpListIn (Wr r) 3 P l.toArray Q (l.drop m) a W) n D M (l.take m)) : CC r P Q n D M (.region id l.toArray true) w := CC.mk fun a F => by
  rw [Bool.and_eq_true] at hB
  obtain ⟨hB, hdf0⟩ := hB
  have hdf : ∀ (j : Nat) o, l.toArray[j]? = some o → dfB o.op = false := fun j o ho => by
    have := List.all_eq_true.1 hdf0 o (by simpa using List.mem_of_getElem? (by simpa using ho))
    simpa using this
  have h := h.h a F
  simp only [Region.lexTailB, Bool.and_eq_true, decide_eq_true_eq] at hB
  obtain ⟨⟨⟨⟨hsel, hn⟩, hs⟩, hc⟩, hlex⟩ := hB
  have hn' : m < l.length := by simpa using hn
  have htl : (l.take m).length = m := by simp; omega
  have hdl : (l.drop m).length = l.toArray.size - m := by simp
  have inv0 : HeadInv .any l.toArray m (Array.replicate l.toArray.size false) :=
    ⟨by simp, fun j oj _ hl => (by rw [getD_replicate_false] at hl; cases hl), fun t _ ht => getD_in (by simpa using ht) (getD_replicate_false _ _)⟩
  have H := HeadG_lex (P := P) (g := l.toArray.size - m) hsel hs hc hn (l.take m) 0 _ a (fun j hj => by
    have hj' : j < m := by rw [htl] at hj; exact hj
    simp [hj']) (by simpa using htl) inv0 (by rw [htl]; exact hlex) h
  refine wpIn_region_any hm ?_
  have := wpAnyIn_of_HeadG (ok := fun W => Below w.heap.size w W) (r := r) (Q := Q) (g := l.toArray.size - m) hdf (fun listed a' w' hw' hL => by
    have := wpAnyIn_of_seq (r := r) (md := .any) (Q := Q) (l.drop m) m listed a' w' (fun j => by simp [List.getElem?_drop]) (by rw [hdl]; exact hL.1) (hL.2 w' hw')
    rwa [hdl] at this) _ _ _ w.drew below_drew H
  rw [htl, show m + (l.toArray.size - m) = l.toArray.size by omega] at this
  exact this
end
end Go.Proofs.Ytajfffoaebjnlaa
/- What the tool that writes walks takes in regions that draw their order and make memory: steps in any order. Over any program. -/
namespace Go.Proofs.Ytajfffoaebjnlaa
set_option linter.unusedVariables false
set_option linter.unusedSimpArgs false
open Go.RowKit Go.Shelf
section
variable {P : Program} {ops : Array Oper} {l : List Oper} {w w' : World} {o : Oper} {n i f : Nat} {D : List Deferred} {M : Slots} {v : Value} {r : Option Nat} {Q : Exit → Act → World → Prop} {ok : World → Prop} {listed : Array Bool} {t : TypeId} {x y : Operand} {K : Slots → World → Prop}
theorem CC.freeZ {id : Nat} (K : World → Nat → Prop) (hm : P.follows .mixedOrders = true) (hB : selB l = true)
    (h : ∀ w1, Below w.heap.size w w1 → w1.heap.size = w.heap.size → AA P l.toArray (fun W => Kept (K w1) w1 W) Q n D M l.length (Array.replicate l.length false) w1) : CC r P Q n D M (.region id l.toArray true) w :=
  CC.free _ hm hB (h _ below_drew rfl)
theorem fzRow {K : Nat → Prop} {g e : Nat} {xs : List Value} (h : RowL w g e xs) (hg : K g) : ∀ w', Kept K w w' → RowL w' g e xs := fun _ hk => h.kept hk hg
theorem AA.vsplit {p : Prop} [Decidable p] (i : Nat) (hi : ops[i]? = some o) (hw : ok w) (hB : rfB ops listed i = true) (ht : ∀ w', ok w' → p → Runs P n D M o w' (.value (.bool true)) w') (hf : ∀ w', ok w' → ¬p → Runs P n D M o w' (.value (.bool false)) w') (hd : dstB n o.dst = true) (hg : wantB ops M o.guard = some true)
    (k1 : p → AA P ops ok Q n D (putM M o.dst (.bool true)) f (listed.setIfInBounds i true) w) (k2 : ¬p → AA P ops ok Q n D (putM M o.dst (.bool false)) f (listed.setIfInBounds i true) w) : AA P ops ok Q n D M (f + 1) listed w := by
  by_cases h : p
  · exact AA.pure i hi hw hB (fun w' b => ht w' b h) hd hg (k1 h)
  · exact AA.pure i hi hw hB (fun w' b => hf w' b h) hd hg (k2 h)
theorem ZR.alloc (cs : List Value) (hi : ops[i]? = some o) (ho : o.op = .alloc t) (hz : zeroB P t = some v) (hcs : v.cells = cs.toArray) (hd : dstB n o.dst = true) (hg : wantB ops M o.guard = some true)
    (c : ∀ w1 g, g = w.heap.size → RowL w1 g t cs → w1.heap.size = g + 1 → Below w.heap.size w w1 → ok w1 ∧ K (putM M o.dst (.pointer (some ⟨g, 0, none⟩))) w1) : SR P ops ok i K n D M w :=
  have h := c _ _ rfl (RowL.new w t cs) (by simp) (Below.alloc0 w _)
  SR.val hi (R.alloc ho (run_alloc hz hcs)) hd hg h.1 h.2
theorem ZR.box (cs : List Value) (hi : ops[i]? = some o) (ho : o.op = .box t x) (hx : evM M x = some v) (hcs : v.cells = cs.toArray) (hd : dstB n o.dst = true) (hg : wantB ops M o.guard = some true)
    (c : ∀ w1 g, g = w.heap.size → RowL w1 g t cs → w1.heap.size = g + 1 → Below w.heap.size w w1 → ok w1 ∧ K (putM M o.dst (.pointer (some ⟨g, 0, none⟩))) w1) : SR P ops ok i K n D M w :=
  have h := c _ _ rfl (RowL.new w t cs) (by simp) (Below.alloc0 w _)
  SR.val hi (R.box ho hx (run_box hcs)) hd hg h.1 h.2
theorem ZR.lit {e k : Nat} {ps : Array (Nat × Operand)} {vs : List (Nat × Value)} (cs : List Value) (len : Nat) (hi : ops[i]? = some o) (ho : o.op = .buildSlice t k ps) (hx : evpM M ps.toList = some vs) (hr : ∀ w, (Instr.buildSlice t k vs.toArray).run P w = .ok (.slice (some ⟨w.heap.size, 0, none⟩) len len) (w.alloc (.cells cs.toArray e))) (hd : dstB n o.dst = true) (hg : wantB ops M o.guard = some true)
    (c : ∀ w1 g, g = w.heap.size → RowL w1 g e cs → w1.heap.size = g + 1 → Below w.heap.size w w1 → ok w1 ∧ K (putM M o.dst (.slice (some ⟨g, 0, none⟩) len len)) w1) : SR P ops ok i K n D M w :=
  have h := c _ _ rfl (RowL.new w e cs) (by simp) (Below.alloc0 w _)
  SR.val hi (R.buildSlice ho hx (hr w)) hd hg h.1 h.2
theorem ZR.store {g off e : Nat} {xs : List Value} (hi : ops[i]? = some o) (ho : o.op = .store t x y) (hx : evM M x = some (.pointer (some ⟨g, off, none⟩))) (hy : evM M y = some v) (hz : szB P t = some 1) (hr : RowL w g e xs) (hl : off < xs.length) (h1 : v.oneCell' = true) (hcs : v.cells = #[v]) (hd : o.dst = none) (hg : wantB ops M o.guard = some true)
    (c : ∀ w1, RowL w1 g e (xs.set off v) → w.grownBy w1 (some g) → w1.heap.size = w.heap.size → ok w1 ∧ K M w1) : SR P ops ok i K n D M w := SR.mk fun K' hK a F => by
  have h := c _ (hr.set off v) (grown_set w _ v) (by simp [World.setCell])
  unfold stepR
  simp only [hi]
  rw [if_pos (F.want hg)]
  refine .inr (.inl ⟨_, R.store ho hx hy (I.st1R hz hr hl h1 hcs) a F, h.1, ?_⟩)
  rw [hd]
  exact hK _ _ h.2 _ F
theorem ZR.storeN {vs : List Value} {g off e : Nat} {xs : List Value} (hi : ops[i]? = some o) (ho : o.op = .store t x y) (hx : evM M x = some (.pointer (some ⟨g, off, none⟩))) (hy : evM M y = some (.agg vs.toArray)) (hz : szB P t = some vs.length) (hr : RowL w g e xs) (hl : off + vs.length ≤ xs.length) (h1 : ∀ u ∈ vs, u.oneCell' = true) (hd : o.dst = none) (hg : wantB ops M o.guard = some true)
    (c : ∀ w1, RowL w1 g e (xs.take off ++ vs ++ xs.drop (off + vs.length)) → w.grownBy w1 (some g) → w1.heap.size = w.heap.size → ok w1 ∧ K M w1) : SR P ops ok i K n D M w := SR.mk fun K' hK a F => by
  obtain ⟨w', hrun, hrow, hgr, hsz⟩ := I.stN (t := t) hz hr hl h1
  have h := c w' hrow hgr hsz
  unfold stepR
  simp only [hi]
  rw [if_pos (F.want hg)]
  refine .inr (.inl ⟨_, R.store ho hx hy hrun a F, h.1, ?_⟩)
  rw [hd]
  exact hK _ _ h.2 _ F
theorem EE.weak {e : Exit} {L : List (Nat × Value)} (h : EE Q n D (sl L) e w) (hL : Fits M L) : EE Q n D M e w := EE.mk fun a F => h.h a (F.keep L hL)
/-- Orders that meet behind the region: what is known there. -/
theorem CC.join {c : Code} (F : List (Nat × Value) → World → Prop) (h : (∀ l w', F l w' → EE Q n D (sl l) .normal w') → CC r P Q n D M c w) (rest : ∀ l w', F l w' → EE Q n D (sl l) .normal w') : CC r P Q n D M c w := h rest
/-- A write into another block. -/
theorem Reads.gr {g b off len cap : Nat} {xs : List Value} (h : Reads w (.slice (some ⟨b, off, none⟩) len cap) xs) (hg : w.grownBy w' (some g)) (hne : b ≠ g) : Reads w' (.slice (some ⟨b, off, none⟩) len cap) xs := by
  obtain ⟨a, c, e, hc, hr⟩ := h
  refine ⟨a, c, e, hc, fun hx => ?_⟩
  obtain ⟨b', off', ea, hb, hcell⟩ := hr hx
  simp only [Value.slice.injEq] at e
  rw [← e.1] at ea
  simp only [Option.some.injEq, Addr.mk.injEq] at ea
  obtain ⟨rfl, rfl, _⟩ := ea
  refine ⟨b, off, by rw [← e.1], Nat.lt_of_lt_of_le hb hg.size, fun j hj => ?_⟩
  rw [← hcell j hj]
  exact World.cell?_of_block (hg.block b hb (by simpa using hne))
end
end Go.Proofs.Ytajfffoaebjnlaa
/- Two results, some of which lie in variables' cells. Over any program. -/
namespace Go.Proofs.Ytajfffoaebjnlaa
set_option linter.unusedVariables false
set_option linter.unusedSimpArgs false
open Go.RowKit Go.Shelf

section
variable {P : Program} {fn : Func} {R : Ending → World → Prop} {n : Nat} {D : List Deferred} {M : Slots} {w : World} {x y : ResultVar} {u v : Value} {a : Act}
/-- What a result's variable holds. -/
def rv (P : Program) (w : World) (M : Slots) : ResultVar → Value → Prop
  | .tmp t, v => M t = some v
  | .cell s t, v => ∃ p, M s = some (.pointer (some p)) ∧ (loadVar t p).run P w = .ok v w
end
end Go.Proofs.Ytajfffoaebjnlaa
/- Ranges over functions, anew: a round knows that the iterator's own rows lie below its own; what the round's variables are is told by more than the element. -/
namespace Go.Proofs.Ytajfffoaebjnlaa
set_option linter.unusedVariables false
set_option linter.unusedSimpArgs false
open Go.RowKit Go.Shelf

section core
variable {α : Type} {P : Program}

end core


section
variable {α γ : Type} {P : Program} {n : Nat} {D : List Deferred} {M : Slots}
theorem RowL.own {B g e : Nat} {xs : List Value} : OwnFrom B (fun (_ : Unit) W => RowL W g e xs) := fun _ W W' row h hg hr => by
  have hlt := h.lt
  have h' : W.heap[g]? = some (.cells xs.toArray e (0, 0)) := h
  refine h.same (hg.block g hlt ?_)
  have key : row ≠ some g := fun e => by
    obtain ⟨_, o, ho, hc⟩ := hr g e
    rw [h'] at ho
    cases ho
    cases hc
  first
    | exact key
    | exact fun e => key e.symm
theorem RowL.abides {β : Type} {B m g e : Nat} (hb : g < B) (f : β → List Value) : Abides B m (fun s W => RowL W g e (f s)) := fun s W W' hs ht => ht.same g _ hs (.inl hb)
/-- A scope without a goto. -/
theorem CC.straight {Q : Exit → Act → World → Prop} {c : Code} {w : World} (h : CC none P (Exit.noGoto Q) n D M c w) : CC none P Q n D M (.scope c) w := CC.mk fun a F => (wpIn_wide (n := 3)).2 (wp_scope_straight ((wpIn_wide (n := 3)).1 (h.h a F)))
theorem EE.noR {Q : Exit → Act → World → Prop} {w : World} (h : EE Q n D M .ret w) : EE (Exit.noGoto Q) n D M .ret w := EE.mk fun a F => h.h a F
end
end Go.Proofs.Ytajfffoaebjnlaa
/- Ranges over functions, once more: what an iterator lays is a set of blocks, which may grow from round to round (a variable of a round that it reads behind the yield, too). -/
namespace Go.Proofs.Ytajfffoaebjnlaa
set_option linter.unusedVariables false
set_option linter.unusedSimpArgs false
open Go.RowKit Go.Shelf

/-- What a round keeps for the iterator: of the blocks from B on those that the iterator laid, and all that hold no cells. -/
structure StaysZ (B : Nat) (m : Nat → Prop) (W W' : World) : Prop where
  size : W.heap.size ≤ W'.heap.size
  same : ∀ (k : Nat) (o : Obj), B ≤ k → W.heap[k]? = some o → (m k ∨ o.isCells = false) → W'.heap[k]? = some o
/-- What an iterator's own steps may turn: no more than that. -/
structure TurnsZ (B : Nat) (m : Nat → Prop) (W W' : World) : Prop where
  os : W'.os = W.os
  tape : W'.tape = W.tape
  output : W'.output = W.output
  size : W.heap.size ≤ W'.heap.size
  same : ∀ (k : Nat) (o : Obj), W.heap[k]? = some o → (k < B ∨ (¬ m k ∧ o.isCells = true)) → W'.heap[k]? = some o
/-- What the iterator does leaves it; what it lays since may be its own. -/
def AbidesZ {β : Type} (B : Nat) (J : (Nat → Prop) → β → World → Prop) : Prop := ∀ m m' s W W', J m s W → TurnsZ B m W W' → (∀ k, m' k → m k ∨ W.heap.size ≤ k) → J m' s W'
section small
variable {B B' n : Nat} {m : Nat → Prop} {W W' X Y : World}
theorem StaysZ.refl (B : Nat) (m : Nat → Prop) (W : World) : StaysZ B m W W := ⟨Nat.le_refl _, fun _ _ _ h _ => h⟩
theorem StaysZ.trans (h : StaysZ B m X W) (k : StaysZ B m W Y) : StaysZ B m X Y := ⟨Nat.le_trans h.size k.size, fun i o hb ho hc => k.same i o hb (h.same i o hb ho hc) hc⟩
theorem StaysZ.mono (h : StaysZ B m X W) (hb : B ≤ B') : StaysZ B' m X W := ⟨h.size, fun k o hk => h.same k o (Nat.le_trans hb hk)⟩
theorem StaysZ.of_below (h : Below W.heap.size W W') : StaysZ B m W W' :=
  ⟨h.size, fun k _ _ hk _ => (h.block k (Array.getElem?_eq_some_iff.1 hk).1).trans hk⟩
theorem StaysZ.record {l : Nat} {r : Loop} (h : StaysZ B m X W) (hb : B ≤ l) (hl : X.heap[l]? = some (.loop r)) : W.heap[l]? = some (.loop r) := h.same l _ hb hl (.inr rfl)
theorem StaysZ.turn {l : Nat} {o : Obj} (hb : l < B) : StaysZ B m W (W.putObj l o) :=
  ⟨by simp, fun k _ hk hx _ => (World.putObj_heap_other (by omega)).trans hx⟩
/-- A write into a block that lies ahead of B. -/
theorem StaysZ.of_grown {b : Nat} {W W' : World} (h : W.grownBy W' (some b)) (hb : b < B) : StaysZ B m W W' :=
  ⟨h.size, fun k o hk ho _ => (h.block k (Array.getElem?_eq_some_iff.1 ho).1 (by simp; omega)).trans ho⟩
theorem StaysZ.row {g e : Nat} {xs : List Value} (h : StaysZ B m W W') (hr : RowL W g e xs) (hb : B ≤ g) (hm : m g) : RowL W' g e xs := h.same g _ hb hr (.inl hm)
theorem TurnsZ.refl (B : Nat) (m : Nat → Prop) (W : World) : TurnsZ B m W W := ⟨rfl, rfl, rfl, Nat.le_refl _, fun _ _ h _ => h⟩
theorem TurnsZ.trans (h : TurnsZ B m X W) (k : TurnsZ B m W Y) : TurnsZ B m X Y :=
  ⟨k.os.trans h.os, k.tape.trans h.tape, k.output.trans h.output, Nat.le_trans h.size k.size, fun i o ho hc => k.same i o (h.same i o ho hc) hc⟩
theorem TurnsZ.mono (h : TurnsZ B' m X W) (hb : B ≤ B') : TurnsZ B m X W := ⟨h.os, h.tape, h.output, h.size, fun k o hk hc => h.same k o hk (hc.imp (fun h => by omega) id)⟩
theorem TurnsZ.of_below (h : Below W.heap.size W W') : TurnsZ B m W W' :=
  ⟨h.os, h.tape, h.output, h.size, fun k _ hk _ => (h.block k (Array.getElem?_eq_some_iff.1 hk).1).trans hk⟩
theorem TurnsZ.putObj (h : TurnsZ B m X W) {l : Nat} {o : Obj} (o' : Obj) (hb : B ≤ l) (hl : W.heap[l]? = some o) (ho : o.isCells = false) : TurnsZ B m X (W.putObj l o') :=
  h.trans ⟨rfl, rfl, rfl, by simp, fun k x hk hc => by
    refine (World.putObj_heap_other (fun e => ?_)).trans hk
    subst e; rw [hl] at hk; cases hk; rcases hc with hc | ⟨_, hc⟩
    · omega
    · rw [ho] at hc; cases hc⟩
theorem TurnsZ.row {g e : Nat} {xs : List Value} (h : TurnsZ B m W W') (hr : RowL W g e xs) (hb : g < B ∨ ¬ m g) : RowL W' g e xs := h.same g _ hr (hb.imp_right fun h => ⟨h, rfl⟩)
theorem TurnsZ.below (h : TurnsZ B m W W') (hn : n ≤ B) (hs : n ≤ W.heap.size) : Below n W W' := ⟨h.os, h.tape, h.output, h.size, fun k hk => by
  have hlt : k < W.heap.size := by omega
  have ho := Array.getElem?_eq_getElem hlt
  exact (h.same k _ ho (.inl (by omega))).trans ho.symm⟩
theorem AbidesZ.putObj {β : Type} {I : (Nat → Prop) → β → World → Prop} (h : AbidesZ B I) {s : β} {l : Nat} {o : Obj} (o' : Obj) (hs : I m s W) (hb : B ≤ l) (hl : W.heap[l]? = some o) (ho : o.isCells = false) : I m s (W.putObj l o') :=
  h m m s W _ hs ((TurnsZ.refl _ _ _).putObj o' hb hl ho) (fun _ hk => .inl hk)
end small
/-- HOW THE BODY OF A ROUND MAY BE LEFT. -/
def roundPZ {α : Type} (B : Nat) (m : Nat → Prop) (D : Nat → Prop) (I : (Nat → Prop) → List α → World → Prop) (Ix : Code → (Nat → Prop) → List α → World → Prop) (xs : List α) (W : World) : Exit → Act → World → Prop
  | .normal, _, W' => StaysZ B m W W' ∧ Keeps D W W' ∧ I m xs W'
  | .ret, _, W' => StaysZ B m W W' ∧ Ix .ret m xs W'
  | .exit id, _, W' => StaysZ B m W W' ∧ Ix (.exit id) m xs W'
  | .goto t, _, W' => StaysZ B m W W' ∧ Ix (.goto t) m xs W'
  | .panic _, _, _ => False
  | .outgrown, _, _ => False

/-- WHAT AN ITERATOR'S VALUE GIVES: one of the lists of S, or a beginning of one, where a round has said 'no more'. -/
def GivesZ {α : Type} (P : Program) (g : Nat) (lb : Array Value) (encs : α → Array Value) (D : Nat → Prop) (S : List α → Prop) (w : World) : Prop :=
  ∀ (l : Nat) (J Jx : (Nat → Prop) → List α → World → Prop) (W : World), Below w.heap.size w W → (AbidesZ W.heap.size J) → (AbidesZ W.heap.size Jx) →
    (∀ m pre x W1, (∀ k, m k → W.heap.size ≤ k ∧ k < W1.heap.size) → J m pre W1 → Part S (pre ++ [x]) → YieldAt Fence.wide 3 P l (encs x) W1 fun e W' =>
      StaysZ W.heap.size m W1 W' ∧ ((e = .returned (.bool true) ∧ J m (pre ++ [x]) W' ∧ Keeps D W1 W') ∨ (e = .returned (.bool false) ∧ Jx m (pre ++ [x]) W'))) →
    (J (fun _ => False) [] W) →
    Calls P g (#[.func (.yield l) #[] #[]] ++ lb) W fun e W' => (∃ v, e = .returned v) ∧ ((∃ m xs, S xs ∧ J m xs W') ∨ (∃ m pre, Part S pre ∧ Jx m pre W'))

section core
variable {α : Type} {P : Program}

theorem coreZ {l B d gf : Nat} {D : Nat → Prop} {fn : FuncId} {tm : Array Value} {ps : Array Tmp} {assign body : Code} {lb : Array Value} {encs : α → Array Value} {S : List α → Prop} {w0 W1 : World}
    (hseq : GivesZ P gf lb encs D S w0) (hb : Below w0.heap.size w0 W1)
    (hl : W1.heap[l]? = some (.loop { state := .ready, pending := none, fn, tmps := tm, params := ps, assign, body, defers := d }))
    (hBl : B ≤ l) (hn : ∀ k, D k → k < l) (hps : ∀ x, (encs x).size = ps.size)
    (I : (Nat → Prop) → List α → World → Prop) (Ix : Code → (Nat → Prop) → List α → World → Prop) (hI : AbidesZ B I) (hIx : ∀ c, AbidesZ B (Ix c)) (h0 : I (fun _ => False) [] W1)
    (Ax : α → Act → World → Prop) (hAx : ∀ x a', OwnFrom B (fun (_ : Unit) W => Ax x a' W))
    (hassign : ∀ m pre x W (K : Act → World → Prop), (∀ k, m k → W1.heap.size ≤ k ∧ k < W.heap.size) → I m pre W → (∀ a' W', StaysZ B m W W' → Keeps D W W' → I m pre W' → Ax x a' W' → K a' W') →
      assign.wpIn (Fence.wide.inRound l) 3 P (Exit.then K (fun _ _ _ => False)) { tmps := (ps.zip (encs x)).foldl (fun t (p, v) => t.setIfInBounds p v) tm, defers := [] } W)
    (hbody : ∀ m pre x a' W, (∀ k, m k → W1.heap.size ≤ k ∧ k < W.heap.size) → (∃ r, W.heap[l]? = some (.loop r)) → I m pre W → Ax x a' W → Part S (pre ++ [x]) →
      body.wpIn (Fence.wide.inRound l) 3 P (roundPZ B m D I Ix (pre ++ [x]) W) a' W) :
    Calls P gf (#[.func (.yield l) #[] #[]] ++ lb) W1 (fun e W2 => (∃ v, e = .returned v) ∧ ∃ jump W3, (Instr.endLoop l).run P W2 = .ok jump W3 ∧
      ((jump = none ∧ ∃ m xs, S xs ∧ I m xs W3) ∨ (∃ c m pre, jump = some c ∧ Part S pre ∧ Ix c m pre W3))) := by
  have hlt1 : l < W1.heap.size := (Array.getElem?_eq_some_iff.1 hl).1
  obtain ⟨rec, hrec⟩ : ∃ rec : LoopState → Option Code → Loop, rec = fun st pe => { state := st, pending := pe, fn, tmps := tm, params := ps, assign, body, defers := d } := ⟨_, rfl⟩
  have hl1 : W1.heap[l]? = some (.loop (rec .ready none)) := by rw [hrec]; exact hl
  refine (hseq l (fun m pre W => I m pre W ∧ W.heap[l]? = some (.loop (rec .ready none)))
    (fun m pre W => ∃ c, Ix c m pre W ∧ W.heap[l]? = some (.loop (rec .done (some c)))) W1 hb
    (fun m m' s X Y hs ht hg => ⟨hI m m' s X Y hs.1 (ht.mono (by omega)) hg, ht.same l _ hs.2 (.inl hlt1)⟩)
    (fun m m' s X Y hs ht hg => by obtain ⟨c, hc, hx⟩ := hs; exact ⟨c, hIx c m m' s X Y hc (ht.mono (by omega)) hg, ht.same l _ hx (.inl hlt1)⟩)
    ?_ ⟨h0, hl1⟩).mono ?_
  · rintro m pre x W hm ⟨hi, hlw⟩ hpart
    have hy := run_yield (P := P) (args := encs x) hlw (by rw [hrec]; exact hps x)
    rw [hrec] at hy
    refine ⟨fn, _, assign, body, hy, roundIn_of_wpIn trivial (hassign m pre x W _ hm hi ?_)⟩
    intro a' Wa hst hbe hia hax
    have hla := hst.record hBl hlw
    have hlta : l < Wa.heap.size := (Array.getElem?_eq_some_iff.1 hla).1
    obtain ⟨Wb, hWb⟩ : ∃ Wb, Wa.putObj l (.loop { rec .ready none with state := .busy }) = Wb := ⟨_, rfl⟩
    refine ⟨Wb, by rw [← hWb]; exact run_beginRound hla (by rw [hrec]), ?_⟩
    have hlb : Wb.heap[l]? = some (.loop { rec .ready none with state := .busy }) := by rw [← hWb]; exact World.putObj_heap_same hlta
    have hib : I m pre Wb := by rw [← hWb]; exact hI.putObj _ hia hBl hla rfl
    have haxb : Ax x a' Wb := by rw [← hWb]; exact (hAx x a').putObj (s := ()) _ hax hBl hla rfl
    have hsb : StaysZ W1.heap.size m W Wb := by rw [← hWb]; exact (hst.mono (by omega)).trans (.turn hlt1)
    have hDl : ¬ D l := fun h => Nat.lt_irrefl _ (hn l h)
    have hbb : Keeps D W Wb := by rw [← hWb]; exact hbe.putObj hDl _
    refine wpIn_mono (hbody m pre x a' Wb (fun k hk => ⟨(hm k hk).1, Nat.lt_of_lt_of_le (hm k hk).2 hsb.size⟩) ⟨_, hlb⟩ hib haxb hpart) ?_
    have fin : ∀ (jump : Option Code) (W3 : World), StaysZ B m Wb W3 → ∃ W4, W4 = W3.putObj l (.loop (rec (if jump.isNone then .ready else .done) jump)) ∧
        (Instr.endRound l jump).run P W3 = .ok (.bool jump.isNone) W4 ∧ W4.heap[l]? = some (.loop (rec (if jump.isNone then .ready else .done) jump)) ∧
        W3.heap[l]? = some (.loop { rec .ready none with state := .busy }) ∧ StaysZ W1.heap.size m W W4 := fun jump W3 hs3 => by
      have hl3 := hs3.record hBl hlb
      have hr := run_endRound (P := P) jump hl3
      rw [hrec] at hr ⊢
      refine ⟨_, rfl, hr, World.putObj_heap_same (Array.getElem?_eq_some_iff.1 hl3).1, by rw [hrec] at hl3; exact hl3, ?_⟩
      exact (hsb.trans (hs3.mono (by omega))).trans (.turn hlt1)
    rintro e a3 W3 hp
    cases e with
    | normal =>
      obtain ⟨hs3, hb3, hi3⟩ := hp
      obtain ⟨W4, e4, hr, hl4, hl3, hs4⟩ := fin none W3 hs3
      refine ⟨_, W4, hr, hs4, .inl ⟨rfl, ⟨?_, hl4⟩, ?_⟩⟩
      · rw [e4]; exact hI.putObj _ hi3 hBl hl3 rfl
      · rw [e4]; exact (hbb.trans hb3).putObj hDl _
    | ret =>
      obtain ⟨hs3, hi3⟩ := hp
      obtain ⟨W4, e4, hr, hl4, hl3, hs4⟩ := fin (some .ret) W3 hs3
      exact ⟨_, W4, hr, hs4, .inr ⟨rfl, .ret, by rw [e4]; exact (hIx _).putObj _ hi3 hBl hl3 rfl, hl4⟩⟩
    | exit id =>
      obtain ⟨hs3, hi3⟩ := hp
      obtain ⟨W4, e4, hr, hl4, hl3, hs4⟩ := fin (some (.exit id)) W3 hs3
      exact ⟨_, W4, hr, hs4, .inr ⟨rfl, .exit id, by rw [e4]; exact (hIx _).putObj _ hi3 hBl hl3 rfl, hl4⟩⟩
    | goto t =>
      obtain ⟨hs3, hi3⟩ := hp
      obtain ⟨W4, e4, hr, hl4, hl3, hs4⟩ := fin (some (.goto t)) W3 hs3
      exact ⟨_, W4, hr, hs4, .inr ⟨rfl, .goto t, by rw [e4]; exact (hIx _).putObj _ hi3 hBl hl3 rfl, hl4⟩⟩
    | panic ch => exact hp.elim
    | outgrown => exact hp.elim
  · rintro e W2 ⟨hv, (⟨m, xs, hS, hi, hlw⟩ | ⟨m, pre, hp, c, hi, hlw⟩)⟩
    · have hr := run_endLoop (P := P) hlw (by rw [hrec]; simp)
      refine ⟨hv, _, _, hr, .inl ⟨by rw [hrec], m, xs, hS, hI.putObj _ hi hBl hlw rfl⟩⟩
    · have hr := run_endLoop (P := P) hlw (by rw [hrec]; simp)
      refine ⟨hv, _, _, hr, .inr ⟨c, m, pre, by rw [hrec], hp, (hIx c).putObj _ hi hBl hlw rfl⟩⟩

/-- THE STATEMENT, OUTERMOST. D is the block of the rounds' deferred calls: at the function's return it is taken once more. -/
theorem rangeZ_out {gf : Nat} {D : Nat → Prop} {g : Operand} {ps : Array Tmp} {assign body : Code} {Q : Exit → Act → World → Prop} {a : Act} {w w0 : World} {lb : Array Value} {encs : α → Array Value} {S : List α → Prop}
    (hg : a.eval g = .func (.func gf) #[] lb) (eg : ∀ args w, (callFunc gf args).run P w = .ok (.enter gf args) w)
    (hseq : GivesZ P gf lb encs D S w0) (hb : Below w0.heap.size w0 w) (hn : ∀ k, D k → k < w.heap.size) (hps : ∀ x, (encs x).size = ps.size)
    (I : (Nat → Prop) → List α → World → Prop) (Ix : Code → (Nat → Prop) → List α → World → Prop) (hI : AbidesZ w.heap.size I) (hIx : ∀ c, AbidesZ w.heap.size (Ix c)) (h0 : I (fun _ => False) [] w)
    (Ax : α → Act → World → Prop) (hAx : ∀ x a', OwnFrom w.heap.size (fun (_ : Unit) W => Ax x a' W))
    (hassign : ∀ (l : Nat) (m : Nat → Prop) pre x W (K : Act → World → Prop), (∀ k, m k → w.heap.size ≤ k ∧ k < W.heap.size) → I m pre W → (∀ a' W', StaysZ w.heap.size m W W' → Keeps D W W' → I m pre W' → Ax x a' W' → K a' W') →
      assign.wpIn (Fence.wide.inRound l) 3 P (Exit.then K (fun _ _ _ => False)) { tmps := (ps.zip (encs x)).foldl (fun t (p, v) => t.setIfInBounds p v) a.tmps, defers := [] } W)
    (hbody : ∀ (l : Nat) (m : Nat → Prop) pre x a' W, (∀ k, m k → w.heap.size ≤ k ∧ k < W.heap.size) → w.heap.size ≤ l → (∃ r, W.heap[l]? = some (.loop r)) → I m pre W → Ax x a' W → Part S (pre ++ [x]) →
      body.wpIn (Fence.wide.inRound l) 3 P (roundPZ w.heap.size m D I Ix (pre ++ [x]) W) a' W)
    (hdone : ∀ (E : Nat) (m : Nat → Prop) xs W, w.heap.size ≤ E → S xs → I m xs W → W.heap[E]? = some (.deferred (some [])) → Q .normal { a with defers := { target := .collected E, args := #[] } :: a.defers } W)
    (hstop : ∀ (E : Nat) (c : Code) (m : Nat → Prop) pre W, w.heap.size ≤ E → Part S pre → Ix c m pre W → W.heap[E]? = some (.deferred (some [])) →
      c.wpIn Fence.wide 3 P Q { a with defers := { target := .collected E, args := #[] } :: a.defers } W) :
    (Code.rangeFunc g ps assign body).wpIn Fence.wide 3 P Q a w := by
  refine wpIn_rangeFunc ?_
  intro fn hfn
  obtain ⟨W1, hW1⟩ : ∃ W1, (w.alloc (.deferred (some []))).alloc (.loop { state := .ready, pending := none, fn, tmps := a.tmps, params := ps, assign, body, defers := w.heap.size }) = W1 := ⟨_, rfl⟩
  have hL1 : W1.heap[w.heap.size + 1]? = some (.loop { state := .ready, pending := none, fn, tmps := a.tmps, params := ps, assign, body, defers := w.heap.size }) := by
    rw [← hW1]; have := World.alloc_heap_new (w.alloc (.deferred (some []))) (.loop { state := .ready, pending := none, fn, tmps := a.tmps, params := ps, assign, body, defers := w.heap.size }); rwa [World.size_alloc] at this
  have hK1 : W1.heap[w.heap.size]? = some (.deferred (some [])) := by
    rw [← hW1]; exact (Below.heap_alloc _ _ _ (by simp)).trans (World.alloc_heap_new w _)
  have hbw : Below w.heap.size w W1 := by rw [← hW1]; exact ((Below.refl _ w).alloc (Nat.le_refl _) _).alloc (by simp) _
  refine ⟨w.heap.size + 1, [{ target := .collected w.heap.size, args := #[] }], W1, { target := .fn (.func gf) lb, args := #[.func (.yield (w.heap.size + 1)) #[] #[]] }, W1, gf,
    #[.func (.yield (w.heap.size + 1)) #[] #[]] ++ lb, W1, ?_, ?_, fun _ _ => trivial, ?_, fun h => (by simp [Fence.wide] at h), ?_⟩
  · rw [← hW1]; exact run_enterLoop_outer _ _ _ _ _
  · simp only [resolve, hg]
    simp [go_sem]
  · simp [invoke, go_sem, eg]
  · refine callsIn_wide.2 ((coreZ (B := w.heap.size + 1) hseq (hb.trans (hbw.mono hb.size)) hL1 (Nat.le_refl _) (fun k hk => Nat.lt_succ_of_lt (hn k hk)) hps
      (fun m pre W => I m pre W ∧ W.heap[w.heap.size]? = some (.deferred (some []))) (fun c m pre W => Ix c m pre W ∧ W.heap[w.heap.size]? = some (.deferred (some [])))
      (fun m m' s X Y hs ht hg => ⟨hI m m' s X Y hs.1 (ht.mono (by omega)) hg, ht.same _ _ hs.2 (.inl (by omega))⟩)
      (fun c m m' s X Y hs ht hg => ⟨hIx c m m' s X Y hs.1 (ht.mono (by omega)) hg, ht.same _ _ hs.2 (.inl (by omega))⟩)
      ⟨hI _ _ _ _ _ h0 (.of_below hbw) (fun k hk => hk.elim), hK1⟩ Ax (fun x a' s X Y row hs hg' hr => hAx x a' s X Y row hs hg' (fun r e => ⟨by have := (hr r e).1; omega, (hr r e).2⟩))
      (fun m pre x W K hm hi hK => hassign _ m pre x W K (fun k hk => ⟨Nat.le_trans hbw.size (hm k hk).1, (hm k hk).2⟩) hi.1 (fun a' W' hs hbe hi' hax => hK a' W' (hs.mono (by omega)) hbe ⟨hi', hs.same _ _ (Nat.le_refl _) hi.2 (.inr rfl)⟩ hax))
      (fun m pre x a' W hm hr hi hax hp => wpIn_mono (hbody _ m pre x a' W (fun k hk => ⟨Nat.le_trans hbw.size (hm k hk).1, (hm k hk).2⟩) (by omega) hr hi.1 hax hp) ?_)).mono ?_)
    · intro e a3 W3 h3
      have hD : ∀ {W' : World}, StaysZ w.heap.size m W W' → W'.heap[w.heap.size]? = some (.deferred (some [])) := fun hs => hs.same _ _ (Nat.le_refl _) hi.2 (.inr rfl)
      cases e with
      | normal => exact ⟨h3.1.mono (by omega), h3.2.1, h3.2.2, hD h3.1⟩
      | ret => exact ⟨h3.1.mono (by omega), h3.2, hD h3.1⟩
      | exit id => exact ⟨h3.1.mono (by omega), h3.2, hD h3.1⟩
      | goto t => exact ⟨h3.1.mono (by omega), h3.2, hD h3.1⟩
      | panic ch => exact h3
      | outgrown => exact h3
    · rintro e W2 ⟨⟨v, rfl⟩, jump, W3, hr, (⟨rfl, m, xs, hS, hi, hD⟩ | ⟨c, m, pre, rfl, hp, hi, hD⟩)⟩
      · exact ⟨none, W3, hr, hdone _ m xs W3 (Nat.le_refl _) hS hi hD⟩
      · exact ⟨some c, W3, hr, hstop _ c m pre W3 (Nat.le_refl _) hp hi hD⟩

/-- THE STATEMENT, OUTERMOST, WHERE A ROUND LEAVES BY 'break' AT MOST. -/
theorem rangeZ_break {id gf : Nat} {D : Nat → Prop} {g : Operand} {ps : Array Tmp} {assign body : Code} {Q : Exit → Act → World → Prop} {a : Act} {w w0 : World} {lb : Array Value} {encs : α → Array Value} {S : List α → Prop}
    (hg : a.eval g = .func (.func gf) #[] lb) (eg : ∀ args w, (callFunc gf args).run P w = .ok (.enter gf args) w)
    (hseq : GivesZ P gf lb encs D S w0) (hb : Below w0.heap.size w0 w) (hn : ∀ k, D k → k < w.heap.size) (hps : ∀ x, (encs x).size = ps.size)
    (I Ix : (Nat → Prop) → List α → World → Prop) (A : World → Prop) (hI : AbidesZ w.heap.size I) (hIx : AbidesZ w.heap.size Ix) (h0 : I (fun _ => False) [] w)
    (Ax : α → Act → World → Prop) (hAx : ∀ x a', OwnFrom w.heap.size (fun (_ : Unit) W => Ax x a' W))
    (hIA : ∀ m xs W, S xs → I m xs W → A W) (hIxA : ∀ m pre W, Part S pre → Ix m pre W → A W)
    (hassign : ∀ (l : Nat) (m : Nat → Prop) pre x W (K : Act → World → Prop), (∀ k, m k → w.heap.size ≤ k ∧ k < W.heap.size) → I m pre W → (∀ a' W', StaysZ w.heap.size m W W' → Keeps D W W' → I m pre W' → Ax x a' W' → K a' W') →
      assign.wpIn (Fence.wide.inRound l) 3 P (Exit.then K (fun _ _ _ => False)) { tmps := (ps.zip (encs x)).foldl (fun t (p, v) => t.setIfInBounds p v) a.tmps, defers := [] } W)
    (hbody : ∀ (l : Nat) (m : Nat → Prop) pre x a' W, (∀ k, m k → w.heap.size ≤ k ∧ k < W.heap.size) → w.heap.size ≤ l → (∃ r, W.heap[l]? = some (.loop r)) → I m pre W → Ax x a' W → Part S (pre ++ [x]) →
      body.wpIn (Fence.wide.inRound l) 3 P (roundPZ w.heap.size m D I (fun c m pre W => c = .exit id ∧ Ix m pre W) (pre ++ [x]) W) a' W)
    (hafter : ∀ (E : Nat) W, w.heap.size ≤ E → A W → W.heap[E]? = some (.deferred (some [])) → Q .normal { a with defers := { target := .collected E, args := #[] } :: a.defers } W) :
    (Code.rangeFunc g ps assign body).wpIn Fence.wide 3 P (Exit.inBlock id Q) a w :=
  rangeZ_out hg eg hseq hb hn hps I (fun c m pre W => c = .exit id ∧ Ix m pre W) hI (fun c m m' s W W' hs ht hg => ⟨hs.1, hIx m m' s W W' hs.2 ht hg⟩) h0 Ax hAx hassign hbody
    (fun E m xs W hE hS hi hK => hafter E W hE (hIA m xs W hS hi) hK)
    (fun E c m pre W hE hp hi hK => by
      obtain ⟨rfl, hi⟩ := hi
      refine wpIn_exit ?_
      have := hafter E W hE (hIxA m pre W hp hi) hK
      simpa [Exit.inBlock] using this)

end core


section
variable {α γ : Type} {P : Program} {n : Nat} {D : List Deferred} {M : Slots}
/-- A range over a function, outermost, of which a round may break at most. -/
theorem CC.rangeZ {id gf : Nat} {Dk : Nat → Prop} {g : Operand} {ps : Array Tmp} {assign body : Code} {Q : Exit → Act → World → Prop} {w w0 : World} {lb : List Value} {encs : α → List Value} {S : List α → Prop}
    (hg : evM M g = some (.func (.func gf) #[] lb.toArray)) (eg : entB P gf = true) (hseq : GivesZ P gf lb.toArray (fun x => (encs x).toArray) Dk S w0) (hb : Below w0.heap.size w0 w) (hn : ∀ k, Dk k → k < w.heap.size) (hps : ∀ x, (encs x).length = ps.size) (hpn : (ps.toList.all fun p => Nat.blt p n) = true)
    (I Ix : (Nat → Prop) → List α → World → Prop) (A : World → Prop) (hI : AbidesZ w.heap.size I) (hIx : AbidesZ w.heap.size Ix) (h0 : I (fun _ => False) [] w) (hIA : ∀ m xs W, S xs → I m xs W → A W) (hIxA : ∀ m pre W, Part S pre → Ix m pre W → A W)
    (Mx : α → γ → Slots) (Ax : α → γ → World → Prop) (hAx : ∀ x c, OwnFrom w.heap.size (fun (_ : Unit) W => Ax x c W))
    (hassign : ∀ (l : Nat) (m : Nat → Prop) pre x W (K : Act → World → Prop), (∀ k, m k → w.heap.size ≤ k ∧ k < W.heap.size) → I m pre W → (∀ a' W' c, StaysZ w.heap.size m W W' → Keeps Dk W W' → I m pre W' → Fr n [] (Mx x c) a' → Ax x c W' → K a' W') → CC (some l) P (Exit.then K (fun _ _ _ => False)) n [] (psM M ps.toList (encs x)) assign W)
    (hbody : ∀ (l : Nat) (m : Nat → Prop) pre x c W, (∀ k, m k → w.heap.size ≤ k ∧ k < W.heap.size) → w.heap.size ≤ l → (∃ r, W.heap[l]? = some (.loop r)) → I m pre W → Ax x c W → Part S (pre ++ [x]) → CC (some l) P (roundPZ w.heap.size m Dk I (fun c m pre W => c = .exit id ∧ Ix m pre W) (pre ++ [x]) W) n [] (Mx x c) body W)
    (hafter : ∀ (E : Nat) W, w.heap.size ≤ E → A W → W.heap[E]? = some (.deferred (some [])) → EE Q n (mark E :: D) M .normal W) :
    CC none P (Exit.inBlock id Q) n D M (.rangeFunc g ps assign body) w := CC.mk fun a F => by
  refine rangeZ_break (gf := gf) (lb := lb.toArray) (F.ev hg) (ent_of eg) hseq hb hn (fun x => by simpa using hps x) I Ix A hI hIx h0 (fun x a' W => ∃ c, Fr n [] (Mx x c) a' ∧ Ax x c W) (fun x a' _ W W' row hs hg hr => by
    obtain ⟨c, hF, hc⟩ := hs
    exact ⟨c, hF, hAx x c () W W' row hc hg hr⟩) hIA hIxA ?_ ?_ ?_
  · intro l m pre x W K hm hi hK
    refine (hassign l m pre x W K hm hi fun a' W' c h1 h2 h3 h4 h5 => hK a' W' h1 h2 h3 ⟨c, h4, h5⟩).h _ ?_
    have F0 : Fr n [] M ⟨a.tmps, []⟩ := ⟨F.size, rfl, F.get⟩
    have := psM_fr ps.toList (encs x) M a.tmps [] F0 hpn
    have e : (ps.zip (encs x).toArray).foldl (fun t (p, v) => t.setIfInBounds p v) a.tmps = (ps.toList.zip (encs x)).foldl (fun t (p, v) => t.setIfInBounds p v) a.tmps := by
      obtain ⟨l⟩ := ps
      rw [← Array.foldl_toList]
      simp
    rw [e]
    exact this
  · intro l m pre x a' W hm hl hr hi hax hp
    obtain ⟨c, hF, hc⟩ := hax
    exact (hbody l m pre x c W hm hl hr hi hc hp).h a' hF
  · intro E W hE hA hd
    exact (hafter E W hE hA hd).h _ ⟨F.size, by rw [F.defers]; rfl, F.get⟩
theorem EE.roundNZ {B : Nat} {m : Nat → Prop} {Dk : Nat → Prop} {I : (Nat → Prop) → List α → World → Prop} {Ix : Code → (Nat → Prop) → List α → World → Prop} {xs : List α} {W w : World} (h : StaysZ B m W w ∧ Keeps Dk W w ∧ I m xs w) : EE (roundPZ B m Dk I Ix xs W) n D M .normal w := EE.mk fun _ _ => h
theorem EE.roundXZ {B id : Nat} {m : Nat → Prop} {Dk : Nat → Prop} {I : (Nat → Prop) → List α → World → Prop} {Ix : Code → (Nat → Prop) → List α → World → Prop} {xs : List α} {W w : World} (h : StaysZ B m W w ∧ Ix (.exit id) m xs w) : EE (roundPZ B m Dk I Ix xs W) n D M (.exit id) w := EE.mk fun _ _ => h
end
end Go.Proofs.Ytajfffoaebjnlaa
/- One element is appended to a slice that is full: a new row. Over any program. -/
namespace Go.Proofs.Ytajfffoaebjnlaa
set_option linter.unusedVariables false
set_option linter.unusedSimpArgs false
open Go.RowKit

end Go.Proofs.Ytajfffoaebjnlaa
/- One result that lies in a variable, behind ranges; loops of so many rounds, each by itself; min and max. For any seat. -/
namespace Go.Proofs.Ytajfffoaebjnlaa
set_option linter.unusedVariables false
set_option linter.unusedSimpArgs false
open Go.RowKit Go.Shelf

section
variable {P : Program} {fn : Func} {R : Ending → World → Prop} {n : Nat} {D : List Deferred} {M : Slots} {w : World} {x : ResultVar} {u : Value} {a : Act} {r : Option Nat} {c : Code} {Q : Exit → Act → World → Prop} {m : Nat}
theorem results1_run (F : Fr n D M a) (h : fn.results = #[x]) (hx : rv P w M x u) : (results fn a.tmps).run P w = .ok u w := by
  unfold results
  rw [h]
  cases x with
  | tmp t =>
    have g1 := F.get t _ hx
    simp only [List.mapM_toArray, List.mapM_cons, List.mapM_nil, g1]
    simp only [bind_assoc, pure_bind, Sem.run_bind, Sem.run_map, Sem.run_pure, Result.andThen_ok]
    rfl
  | cell s t =>
    obtain ⟨p, h0, h1⟩ := hx
    have g1 := F.get s _ h0
    simp only [List.mapM_toArray, List.mapM_cons, List.mapM_nil, g1, asAddr]
    simp only [bind_assoc, pure_bind, Sem.run_bind, Sem.run_map, Sem.run_pure, h1, Result.andThen_ok]
    rfl
theorem EE.retM1 (h : fn.results = #[x]) (hx : rv P w M x u) (hR : R (.returned u) w) : EE (calmP (bodyPostM Fence.wide 3 P fn R)) n [] M .ret w := EE.mk fun a F => by
  show LeavesInM Fence.wide 3 P fn a.tmps R a.defers .returning w
  rw [F.defers]
  exact ⟨_, results1_run F h hx, hR⟩
/-- A loop of so many rounds at most, each by itself. -/
structure RN (r : Option Nat) (P : Program) (c : Code) (Q : Exit → Act → World → Prop) (n : Nat) (D : List Deferred) (M : Slots) (m : Nat) (w : World) : Prop where
  h : ∀ a, Fr n D M a → Code.roundsIn (Wr r) 3 P c Q m a w
theorem RN.step (h : CC r P (Exit.then (fun a' w' => Code.roundsIn (Wr r) 3 P c Q m a' w') Q) n D M c w) : RN r P c Q n D M (m + 1) w := RN.mk fun a F => h.h a F
theorem RN.keep (L : List (Nat × Value)) (hL : Fits M L) (h : RN r P c Q n D (sl L) m w) : RN r P c Q n D M m w := RN.mk fun a F => h.h a (F.keep L hL)
theorem R.max {o : Oper} {xs : Array Operand} {ts : Array TypeId} {k : IntKind} {y z : Int} (ho : o.op = .call { callee := .builtin .max, args := xs, argTypes := ts }) (hx : evsM M xs.toList = some [.int k y, .int k z]) : Runs P n D M o w (.value (.int k (if y < z then z else y))) w := R.builtin ho hx fun cs => by
  simp [Go.builtin, Builtin.max_, Builtin.max2]
theorem R.min {o : Oper} {xs : Array Operand} {ts : Array TypeId} {k : IntKind} {y z : Int} (ho : o.op = .call { callee := .builtin .min, args := xs, argTypes := ts }) (hx : evsM M xs.toList = some [.int k y, .int k z]) : Runs P n D M o w (.value (.int k (if z < y then z else y))) w := R.builtin ho hx fun cs => by
  simp [Go.builtin, Builtin.min_, Builtin.min2]
end
end Go.Proofs.Ytajfffoaebjnlaa
/- Parts of slices. Over any program. -/
namespace Go.Proofs.Ytajfffoaebjnlaa
set_option linter.unusedVariables false
set_option linter.unusedSimpArgs false
open Go.RowKit Go.Shelf
section
variable {P : Program} {w : World} {T : TypeId} {e k : Nat}
theorem I.slS {b off len cap lo hi : Nat} (h : slB P T = some (e, k)) (h1 : lo ≤ hi) (h2 : hi ≤ cap) (h3 : lo < cap) : (Instr.sliceAt T (.slice (some ⟨b, off, none⟩) len cap) (some (.int .i64 (lo : Int))) (some (.int .i64 (hi : Int))) none).run P w = .ok (.slice (some ⟨b, off + lo * k, none⟩) (hi - lo) (cap - lo)) w := by
  refine slAt_sl h ?_
  obtain ⟨hu, hs⟩ := sl_of h
  obtain ⟨i, hi', hsz⟩ : ∃ i, P.info? e = some i ∧ i.size = k := by
    unfold szB at hs
    cases hq : P.info? e with
    | none => rw [hq] at hs; cases hs
    | some i => rw [hq] at hs; exact ⟨i, rfl, by simpa using hs⟩
  have hne : ¬ cap = lo := by omega
  simp [Instr.slice, run_underlying hu, Instr.sliceBounds, run_sliceBound, sizeOf, typeInfo, hi', hsz, (by omega : (lo : Int) ≤ (hi : Int)), (by omega : (hi : Int) ≤ (cap : Int)), hne, Addr.add]
theorem I.slFrom {b off len cap lo : Nat} (h : slB P T = some (e, k)) (h1 : lo ≤ len) (h2 : len ≤ cap) (h3 : lo < cap) : (Instr.sliceAt T (.slice (some ⟨b, off, none⟩) len cap) (some (.int .i64 (lo : Int))) none none).run P w = .ok (.slice (some ⟨b, off + lo * k, none⟩) (len - lo) (cap - lo)) w := by
  refine slAt_sl h ?_
  obtain ⟨hu, hs⟩ := sl_of h
  obtain ⟨i, hi', hsz⟩ : ∃ i, P.info? e = some i ∧ i.size = k := by
    unfold szB at hs
    cases hq : P.info? e with
    | none => rw [hq] at hs; cases hs
    | some i => rw [hq] at hs; exact ⟨i, rfl, by simpa using hs⟩
  have hne : ¬ cap = lo := by omega
  simp [Instr.slice, run_underlying hu, Instr.sliceBounds, run_sliceBound, sizeOf, typeInfo, hi', hsz, (by omega : (lo : Int) ≤ (len : Int)), hne, Addr.add]
theorem cell_up {w' : World} {b o : Nat} {v : Value} (h : w.cell? ⟨b, o, none⟩ = some v) (hb : Below w.heap.size w w') : w'.cell? ⟨b, o, none⟩ = some v :=
  (World.cell?_of_block (hb.block b (World.block_lt_of_cell? w _ h))).trans h
theorem cell_gr {w' : World} {b o : Nat} {r : Nat} {v : Value} (h : w.cell? ⟨b, o, none⟩ = some v) (hg : w.grownBy w' (some r)) (hne : b ≠ r) : w'.cell? ⟨b, o, none⟩ = some v :=
  hg.cell h (by simpa using hne)
theorem cell_kept {K : Nat → Prop} {w' : World} {b o : Nat} {v : Value} (h : w.cell? ⟨b, o, none⟩ = some v) (hk : Kept K w w') (hb : K b) : w'.cell? ⟨b, o, none⟩ = some v := (World.cell?_of_block (hk.block b hb)).trans h
/-- A part of what a slice reads as. -/
theorem Reads.part {b off len cap lo hi : Nat} {xs : List Value} (h : Reads w (.slice (some ⟨b, off, none⟩) len cap) xs) (h1 : lo ≤ hi) (h2 : hi ≤ len) (h3 : hi - lo ≤ cap - lo) : Reads w (.slice (some ⟨b, off + lo * 1, none⟩) (hi - lo) (cap - lo)) ((xs.drop lo).take (hi - lo)) := by
  obtain ⟨a, c, e, hc, hr⟩ := h
  simp only [Value.slice.injEq] at e
  obtain ⟨rfl, rfl, rfl⟩ := e
  have hl : ((xs.drop lo).take (hi - lo)).length = hi - lo := by simp; omega
  refine ⟨_, _, by rw [hl], by rw [hl]; exact h3, fun hne => ?_⟩
  have hx : xs ≠ [] := by rintro rfl; simp at hne
  obtain ⟨b', off', ea, hb, hcell⟩ := hr hx
  simp only [Option.some.injEq, Addr.mk.injEq] at ea
  obtain ⟨rfl, rfl, _⟩ := ea
  refine ⟨b, off + lo * 1, rfl, hb, fun j hj => ?_⟩
  rw [hl] at hj
  have := hcell (lo + j) (by omega)
  rw [Nat.mul_one, Nat.add_assoc, this, List.getElem?_take, if_pos hj, List.getElem?_drop]
theorem SR.storeN {ops : Array Oper} {ok : World → Prop} {i : Nat} {K : Slots → World → Prop} {n : Nat} {D : List Deferred} {M : Slots} {o : Oper} {x y : Operand} {t : TypeId} {g off e : Nat} {xs vs : List Value} (hi : ops[i]? = some o) (ho : o.op = .store t x y) (hx : evM M x = some (.pointer (some ⟨g, off, none⟩))) (hy : evM M y = some (.agg vs.toArray)) (hz : szB P t = some vs.length) (hr : RowL w g e xs) (hl : off + vs.length ≤ xs.length) (h1 : ∀ u ∈ vs, u.oneCell' = true) (hd : o.dst = none) (hg : wantB ops M o.guard = some true)
    (c : ∀ w1, RowL w1 g e (xs.take off ++ vs ++ xs.drop (off + vs.length)) → w.grownBy w1 (some g) → w1.heap.size = w.heap.size → ok w1 ∧ K M w1) : SR P ops ok i K n D M w := SR.mk fun K' hK a F => by
  obtain ⟨w', hrun, hrow, hgr, hsz⟩ := I.stN hz hr hl h1
  have h := c w' hrow hgr hsz
  unfold stepR
  simp only [hi]
  rw [if_pos (F.want hg)]
  refine .inr (.inl ⟨_, R.store ho hx hy hrun a F, h.1, ?_⟩)
  rw [hd]
  exact hK _ _ h.2 _ F
end
end Go.Proofs.Ytajfffoaebjnlaa
/- Slices of tuples for the tool that writes walks: facts that are carried; two slices of one's own, one beside the other. Over any program. -/
namespace Go.Proofs.Ytajfffoaebjnlaa
set_option linter.unusedVariables false
set_option linter.unusedSimpArgs false
open Go.RowKit Go.Shelf
section
variable {α β : Type} {enc : α → List Value} {k e : Nat} {w w' : World} {v : Value} {ts : List α}
theorem Cells.up {b o : Nat} {vs : List Value} (h : Cells w ⟨b, o, none⟩ vs) (hb : Below w.heap.size w w') : Cells w' ⟨b, o, none⟩ vs := fun j u hu => by
  have h1 := h j u hu
  rw [Addr.add_lit] at h1 ⊢
  exact (World.cell?_of_block (hb.block b (World.block_lt_of_cell? w _ h1))).trans h1
theorem Cells.gr {b o g : Nat} {vs : List Value} (h : Cells w ⟨b, o, none⟩ vs) (hg : w.grownBy w' (some g)) (hne : b ≠ g) : Cells w' ⟨b, o, none⟩ vs := fun j u hu => by
  have h1 := h j u hu
  rw [Addr.add_lit] at h1 ⊢
  exact (World.cell?_of_block (hg.block b (World.block_lt_of_cell? w _ h1) (by simpa using hne))).trans h1
theorem Below.of_none (h : w.grownBy w' none) : Below w.heap.size w w' := (Below.refl _ _).grown h (Nat.le_refl _) fun j ej => by cases ej
theorem Kept.onB {w0 : World} {n : Nat} {K : Nat → Prop} (k : Kept K w w') (h : Below n w0 w) (hK : ∀ j, j < n → K j) : Below n w0 w' :=
  ⟨k.os.trans h.os, k.tape.trans h.tape, k.output.trans h.output, Nat.le_trans h.size k.size, fun j hj => (k.block j (hK j hj)).trans (h.block j hj)⟩
/-- What an append to another slice leaves. -/
theorem OwnsT.apart {r : Option Nat} {base : Nat} (h : OwnsT enc k w base e v ts) (hg : w.grownBy w' r) (hne : v.ownBlock = Option.none ∨ v.ownBlock ≠ r) : OwnsT enc k w' base e v ts := by
  cases r with
  | none => exact h.up (Below.of_none hg)
  | some g =>
    rcases hne with hne | hne
    · exact h.grown hg (by rw [hne]; simp)
    · exact h.grown hg hne
theorem RowL.grO {r : Option Nat} {g : Nat} {xs : List Value} (h : RowL w g e xs) (hg : w.grownBy w' r) (hr : r ≠ some g) : RowL w' g e xs := by
  cases r with
  | none => exact h.up (Below.of_none hg)
  | some b => exact h.gr hg (fun e => hr (by rw [e]))
theorem ReadsT.gr {g b off n cap : Nat} (h : ReadsT enc k w (.slice (some ⟨b, off, none⟩) n cap) ts) (hg : w.grownBy w' (some g)) (hne : b ≠ g) : ReadsT enc k w' (.slice (some ⟨b, off, none⟩) n cap) ts := h.grown hg fun x n' c' e _ => by
  simp only [Value.slice.injEq, Option.some.injEq] at e
  rw [← e.1]
  exact hne
theorem own_lt {base : Nat} (h : OwnsT enc k w base e v ts) : v.ownBlock = Option.none ∨ ∃ b, v.ownBlock = some b ∧ b < w.heap.size := by
  rcases h.above with h | ⟨b, h, _, hl⟩
  · exact .inl h
  · exact .inr ⟨b, h, hl⟩
theorem own_ge {base : Nat} (h : OwnsT enc k w base e v ts) : ∀ g, v.ownBlock = some g → base ≤ g := by
  intro g hg
  rcases h.above with h | ⟨b, h, hb, _⟩
  · rw [h] at hg; cases hg
  · rw [h] at hg; cases hg; exact hb
theorem own_ne {base g : Nat} (h : OwnsT enc k w base e v ts) (hg : g < base) : v.ownBlock ≠ some g := fun e => by
  have := own_ge h g e
  omega
end
section
variable {P : Program} {w : World} {T TI e : TypeId} {z : Value} {bytes : Nat} {kn : IntKind} {o : Oper} {n i : Nat} {D : List Deferred} {M : Slots} {ops : Array Oper} {ok : World → Prop} {K : Slots → World → Prop}
theorem ZR.append {xs : Array Operand} {v vx : Value} {base m : Nat} {us ys : List Value} (hi : ops[i]? = some o) (ho : o.op = .call { callee := .builtin .append, args := xs, argTypes := #[T, T] }) (hx : evsM M xs.toList = some [v, vx]) (I : El P T e z bytes) (hown : w.ownsRow base e 1 v m us) (hr : Reads w vx ys) (hone : ∀ u ∈ ys, u.oneCell' = true)
    (h63 : m + ys.length ≤ maxLen) (hb : (m + ys.length) * bytes ≤ 140737488355328) (hbase : base ≤ w.heap.size) (hd : dstB n o.dst = true) (hg : wantB ops M o.guard = some true)
    (k : ∀ v' w', w'.ownsRow base e 1 v' (m + ys.length) (us ++ ys) → w.grownBy w' v.ownBlock → ok w' ∧ K (putM M o.dst v') w') : SR P ops ok i K n D M w := by
  obtain ⟨v', w', h1, h2, h3⟩ := run_append_all I o.type hown hr hone h63 hb hbase
  have h := k v' w' h2 h3
  refine SR.val (v := v') hi (R.builtin ho hx fun b => ?_) hd hg h.1 h.2
  unfold builtin
  simp only [Sem.run_bind, h1, Result.andThen_ok, Sem.run_pure]
end
end Go.Proofs.Ytajfffoaebjnlaa
/- Slices of one's own that grow in the rounds of a range over a function; facts that such a range leaves. Over any program. -/
namespace Go.Proofs.Ytajfffoaebjnlaa
set_option linter.unusedVariables false
set_option linter.unusedSimpArgs false
open Go.RowKit Go.Shelf
section
variable {α : Type} {enc : α → List Value} {k e B : Nat} {m : Nat → Prop} {w w' : World} {v : Value} {ts : List α}
theorem OwnsT.same {base : Nat} (h : OwnsT enc k w base e v ts) (hz : w.heap.size ≤ w'.heap.size) (hs : ∀ (g : Nat) (cs : Array Value), v.ownBlock = some g → w.heap[g]? = some (.cells cs e) → w'.heap[g]? = some (.cells cs e)) : OwnsT enc k w' base e v ts := by
  rcases id h.2 with ⟨e1, e2⟩ | ⟨g, cap, cur, rfl, hbg, hg, r⟩
  · exact ⟨h.1, .inl ⟨e1, e2⟩⟩
  · exact ⟨h.1, .inr ⟨g, cap, cur, rfl, hbg, hs g cur rfl hg, r⟩⟩
theorem OwnsT.turn {base : Nat} (h : OwnsT enc k w base e v ts) (ht : TurnsZ B m w w') (hm : ∀ g, v.ownBlock = some g → ¬ m g) : OwnsT enc k w' base e v ts :=
  h.same ht.size fun g cs hg hx => ht.same g _ hx (.inr ⟨hm g hg, rfl⟩)
theorem TurnsZ.cell {b o : Nat} {u : Value} (ht : TurnsZ B m w w') (h : w.cell? ⟨b, o, none⟩ = some u) (hb : b < B) : w'.cell? ⟨b, o, none⟩ = some u := by
  have hlt := World.block_lt_of_cell? _ _ h
  have hx := Array.getElem?_eq_getElem hlt
  exact (World.cell?_of_block ((ht.same b _ hx (.inl hb)).trans hx.symm)).trans h
theorem Reads.sameB {b off len cap : Nat} {xs : List Value} (h : Reads w (.slice (some ⟨b, off, none⟩) len cap) xs) (hz : w.heap.size ≤ w'.heap.size) (hs : ∀ o, w.heap[b]? = some o → w'.heap[b]? = some o) : Reads w' (.slice (some ⟨b, off, none⟩) len cap) xs := by
  obtain ⟨a, c, e, hc, hr⟩ := h
  refine ⟨a, c, e, hc, fun hx => ?_⟩
  obtain ⟨b', off', ea, hb, hcell⟩ := hr hx
  simp only [Value.slice.injEq] at e
  rw [← e.1] at ea
  simp only [Option.some.injEq, Addr.mk.injEq] at ea
  obtain ⟨rfl, rfl, _⟩ := ea
  refine ⟨b, off, by rw [← e.1], Nat.lt_of_lt_of_le hb hz, fun j hj => ?_⟩
  rw [← hcell j hj]
  have hx := Array.getElem?_eq_getElem hb
  exact World.cell?_of_block ((hs _ hx).trans hx.symm)
theorem Reads.turn {b off len cap : Nat} {xs : List Value} (h : Reads w (.slice (some ⟨b, off, none⟩) len cap) xs) (ht : TurnsZ B m w w') (hb : b < B) : Reads w' (.slice (some ⟨b, off, none⟩) len cap) xs :=
  h.sameB ht.size fun o ho => ht.same b o ho (.inl hb)
theorem Reads.grO {b off len cap : Nat} {r : Option Nat} {xs : List Value} (h : Reads w (.slice (some ⟨b, off, none⟩) len cap) xs) (hg : w.grownBy w' r) (hr : r ≠ some b) : Reads w' (.slice (some ⟨b, off, none⟩) len cap) xs := by
  cases r with
  | none => exact h.up (Below.of_none hg)
  | some g => exact h.gr hg (fun e => hr (by rw [e]))
theorem ReadsT.sameB {b off len cap : Nat} (h : ReadsT enc k w (.slice (some ⟨b, off, none⟩) len cap) ts) (hz : w.heap.size ≤ w'.heap.size) (hs : ∀ o, w.heap[b]? = some o → w'.heap[b]? = some o) : ReadsT enc k w' (.slice (some ⟨b, off, none⟩) len cap) ts := by
  obtain ⟨a, c, e, hc, hr⟩ := h
  refine ⟨a, c, e, hc, fun hx => ?_⟩
  obtain ⟨b', off', ea, hb, hcell⟩ := hr hx
  simp only [Value.slice.injEq] at e
  rw [← e.1] at ea
  simp only [Option.some.injEq, Addr.mk.injEq] at ea
  obtain ⟨rfl, rfl, _⟩ := ea
  refine ⟨b, off, by rw [← e.1], Nat.lt_of_lt_of_le hb hz, ?_⟩
  have hx := Array.getElem?_eq_getElem hb
  have hbk := (hs _ hx).trans hx.symm
  intro j hj
  rw [← hcell j hj]
  exact World.cell?_of_block hbk
/-- A write into a slice of one's own, in a round. -/
theorem StaysZ.own {base : Nat} (h : OwnsT enc k w base e v ts) (hg : w.grownBy w' v.ownBlock) (hm : ∀ g, v.ownBlock = some g → ¬ m g) : StaysZ B m w w' := by
  refine ⟨hg.size, fun j o hb hj hc => ?_⟩
  have hlt := (Array.getElem?_eq_some_iff.1 hj).1
  refine (hg.block j hlt fun ej => ?_).trans hj
  rcases id h.2 with ⟨e1, e2⟩ | ⟨g, cap, cur, rfl, hbg, hgg, r⟩
  · rw [e1] at ej; cases ej
  · have ej' : j = g := by simpa [Value.ownBlock] using ej
    subst ej'
    rcases hc with hc | hc
    · exact hm j rfl hc
    · rw [hgg] at hj; cases hj; cases hc
theorem own_later {base : Nat} {m' : Nat → Prop} (o : OwnsT enc k w base e v ts) (hm : ∀ g, v.ownBlock = some g → ¬ m g) (hg : ∀ j, m' j → m j ∨ w.heap.size ≤ j) : ∀ g, v.ownBlock = some g → ¬ m' g := fun g hgv h => by
  rcases hg g h with h | h
  · exact hm g hgv h
  · rcases own_lt o with e1 | ⟨b, e1, hb⟩
    · rw [e1] at hgv; cases hgv
    · rw [e1] at hgv; cases hgv; omega
theorem own_taken {base E : Nat} (o : OwnsT enc k w base e v ts) (hE : w.heap[E]? = some (.deferred (some []))) : OwnsT enc k (taken E w) base e v ts :=
  o.same (by simp [taken]) fun g cs hg hx => (World.putObj_heap_other (fun e => by subst e; rw [hE] at hx; cases hx)).trans hx
theorem own_new {v' : Value} (h1 : v'.ownBlock = v.ownBlock ∨ ∃ b, v'.ownBlock = some b ∧ w.heap.size ≤ b) (hm : ∀ g, v.ownBlock = some g → ¬ m g) (hlt : ∀ j, m j → j < w.heap.size) : ∀ g, v'.ownBlock = some g → ¬ m g := fun g hg => by
  rcases h1 with h1 | ⟨b, h1, hb⟩
  · exact hm g (by rw [← h1]; exact hg)
  · rw [h1] at hg; cases hg
    intro h
    have := hlt _ h
    omega
end
end Go.Proofs.Ytajfffoaebjnlaa
/- Slices whose elements have many cells: made, copied; parts of elements loaded and stored. Over any program. -/
namespace Go.Proofs.Ytajfffoaebjnlaa
set_option linter.unusedVariables false
set_option linter.unusedSimpArgs false
open Go.RowKit Go.Shelf

/-- k cells from a place on. -/
structure CellsN (w : World) (p : Addr) (k : Nat) (vs : List Value) : Prop where
  at' : Cells w p vs
  len : vs.length = k
section
variable {w w' : World} {p : Addr} {k b o : Nat} {vs : List Value} {P : Program} {t : TypeId}
theorem CellsN.lt (h : CellsN w ⟨b, o, none⟩ k vs) (hk : 0 < k) : b < w.heap.size := by
  have hl := h.len
  obtain ⟨u, hu⟩ : ∃ u, vs[0]? = some u := ⟨_, List.getElem?_eq_getElem (by omega)⟩
  have := h.at' 0 u hu
  rw [add_plain] at this
  exact World.block_lt_of_cell? _ _ this
theorem CellsN.up (h : CellsN w ⟨b, o, none⟩ k vs) (hb : Below w.heap.size w w') : CellsN w' ⟨b, o, none⟩ k vs := ⟨fun j u hu => by
  have h1 := h.at' j u hu
  rw [add_plain] at *
  exact (hb.cell (p := ⟨b, o + j, none⟩) (World.block_lt_of_cell? _ _ h1)).trans h1, h.len⟩
theorem CellsN.gr {r : Nat} (h : CellsN w ⟨b, o, none⟩ k vs) (hg : w.grownBy w' (some r)) (hne : b ≠ r) : CellsN w' ⟨b, o, none⟩ k vs := ⟨fun j u hu => by
  have h1 := h.at' j u hu
  rw [add_plain] at *
  exact (World.cell?_of_block (hg.block b (World.block_lt_of_cell? _ _ h1) (by simpa using hne))).trans h1, h.len⟩
theorem CellsN.kept {K : Nat → Prop} (h : CellsN w ⟨b, o, none⟩ k vs) (hk : Kept K w w') (hb : K b) : CellsN w' ⟨b, o, none⟩ k vs := ⟨fun j u hu => by
  have h1 := h.at' j u hu
  rw [add_plain] at *
  exact (World.cell?_of_block (hk.block b hb)).trans h1, h.len⟩
/-- A part. -/
theorem CellsN.part {us : List Value} (h : CellsN w ⟨b, o, none⟩ k vs) (c : Nat) {k' : Nat} (hu : (vs.drop c).take k' = us) (hl : c + k' ≤ k) : CellsN w ⟨b, o + c, none⟩ k' us := by
  have hv := h.len
  subst hu
  refine ⟨fun j u hj => ?_, by rw [List.length_take, List.length_drop]; omega⟩
  have hlt := (List.getElem?_eq_some_iff.1 hj).1
  rw [List.length_take, List.length_drop] at hlt
  rw [List.getElem?_take, if_pos (by omega), List.getElem?_drop] at hj
  have := h.at' _ u hj
  rw [add_plain] at *
  rw [Nat.add_assoc]
  exact this
theorem CellsN.cell {u : Value} (h : CellsN w ⟨b, o, none⟩ k vs) {j : Nat} (hu : vs[j]? = some u) : w.cell? ⟨b, o + j, none⟩ = some u := by
  have := h.at' j u hu
  rwa [add_plain] at this
theorem I.ldM (h : CellsN w p k vs) (hT : aggB P t = true) (hz : szB P t = some k) : (Instr.loadAt t (.pointer (some p))).run P w = .ok (.agg vs.toArray) w := I.ldN hT (by rw [hz, h.len]) h.at'
theorem lvM (h : CellsN w p k vs) (hT : aggB P t = true) (hz : szB P t = some k) : (loadVar t p).run P w = .ok (.agg vs.toArray) w := lvN hT (by rw [hz, h.len]) h.at'
theorem RowL.cellsN {g e off : Nat} {xs : List Value} (h : RowL w g e xs) (hv : (xs.drop off).take k = vs) (hl : off + k ≤ xs.length) : CellsN w ⟨g, off, none⟩ k vs := by
  have hlen : vs.length = k := by rw [← hv, List.length_take, List.length_drop]; omega
  exact ⟨h.cells (by rw [hlen]; exact hv), hlen⟩
theorem RowL.elemN {α : Type} {enc : α → List Value} {g e i : Nat} {ts : List α} {x : α} (E : Enc enc k) (h : RowL w g e (ts.flatMap enc)) (hx : ts[i]? = some x) : CellsN w ⟨g, i * k, none⟩ k (enc x) := by
  have hi := (List.getElem?_eq_some_iff.1 hx).1
  have hf := E.flat ts
  have hin : i * k + k ≤ ts.length * k := by
    have : (i + 1) * k ≤ ts.length * k := Nat.mul_le_mul_right _ hi
    rw [Nat.add_mul] at this
    omega
  refine h.cellsN ?_ (by omega)
  rw [E.drop, ← Nat.one_mul k, E.take]
  rw [show ts.drop i = x :: ts.drop (i + 1) by rw [← (List.getElem?_eq_some_iff.1 hx).2]; exact List.drop_eq_getElem_cons hi]
  simp
theorem ReadsT.elemN {α : Type} {enc : α → List Value} (E : Enc enc k) {off n cap i : Nat} {ts : List α} {x : α} (h : ReadsT enc k w (.slice (some ⟨b, off, none⟩) n cap) ts) (hx : ts[i]? = some x) : CellsN w ⟨b, off + i * k, none⟩ k (enc x) := by
  obtain ⟨b', off', e, _, hc⟩ := h.get E hx
  simp only [Option.some.injEq, Addr.mk.injEq] at e
  obtain ⟨rfl, rfl, _⟩ := e
  exact ⟨hc, E.len x⟩
theorem ReadsT.kp {α : Type} {enc : α → List Value} {K : Nat → Prop} {off n cap : Nat} {ts : List α} (h : ReadsT enc k w (.slice (some ⟨b, off, none⟩) n cap) ts) (hk : Kept K w w') (hb : K b) : ReadsT enc k w' (.slice (some ⟨b, off, none⟩) n cap) ts :=
  h.sameB hk.size fun _ ho => (hk.block b hb).trans ho
end

section
variable {α : Type} {enc : α → List Value} {k : Nat} {P : Program} {w : World} {o : Oper} {n : Nat} {D : List Deferred} {M : Slots} {T e : TypeId} {z : Value} {bytes : Nat} {r : Option Nat} {ops : Array Oper} {Q : Exit → Act → World → Prop} {rest : List Oper}
theorem madeCells_rep (zs : List Value) (hk : 0 < zs.length) (m : Nat) : (madeCells zs.toArray (m * zs.length)).toList = (List.replicate m zs).flatten := by
  apply List.ext_getElem?
  intro j
  unfold madeCells
  simp only [Array.toList_map, Array.toList_range, List.getElem?_map, List.size_toArray]
  have key : ∀ (m j : Nat), (List.replicate m zs).flatten[j]? = if j < m * zs.length then zs[j % zs.length]? else none := by
    intro m
    induction m with
    | zero => intro j; simp
    | succ m ih =>
      intro j
      rw [List.replicate_succ, List.flatten_cons, List.getElem?_append]
      by_cases hj : j < zs.length
      · rw [if_pos hj, Nat.mod_eq_of_lt hj, if_pos]
        rw [Nat.add_mul]; omega
      · rw [if_neg hj, ih (j - zs.length)]
        have e1 : (j - zs.length) % zs.length = j % zs.length := by
          conv => rhs; rw [show j = (j - zs.length) + zs.length by omega, Nat.add_mod_right]
        rw [e1, Nat.add_mul]
        by_cases h2 : j - zs.length < m * zs.length
        · rw [if_pos h2, if_pos (by omega)]
        · rw [if_neg h2, if_neg (by omega)]
  rw [key]
  by_cases hj : j < m * zs.length
  · have hm : j % zs.length < zs.length := Nat.mod_lt _ hk
    rw [if_pos hj, List.getElem?_range hj, List.getElem?_eq_getElem hm]
    simp [hm]
  · rw [if_neg hj, List.getElem?_eq_none (by simpa using Nat.le_of_not_lt hj)]
    rfl
/-- make([]T, l, m) of elements of many cells. -/
theorem run_mkE {zs : List Value} (I : ElT P T e z k bytes) (hzc : z.cells = zs.toArray) (hk : 0 < k) (l m : Nat) (hl : l ≤ m) (hb : bytes * m ≤ 281474976710656) (hn : m ≤ 9223372036854775807) (w : World) :
    ∃ w', (Instr.makeSlice T (.int .i64 (l : Int)) (.int .i64 (m : Int))).run P w = .ok (.slice (some ⟨w.heap.size, 0, none⟩) l m) w' ∧ RowL w' w.heap.size e (List.replicate m zs).flatten ∧ Below w.heap.size w w' ∧ w'.heap.size = w.heap.size + 1 := by
  obtain ⟨i, hi, hz, hsz, hby⟩ := I.info
  have hm := I.many
  rw [hzc] at hm
  have hzl : zs.length = k := by simpa using hm
  have hb' : (i.bytes : Int) * (m : Int) ≤ 281474976710656 := by
    have h : ((i.bytes * m : Nat) : Int) ≤ 281474976710656 := by rw [hby]; omega
    rwa [Int.natCast_mul] at h
  have h := run_make (P := P) w T e i z I.under hi hz .i64 .i64 l m (by omega) (by omega) hb' (by omega)
  simp only [Int.toNat_natCast, hsz, hzc] at h
  refine ⟨_, h, ?_, Below.alloc0 w _, by simp⟩
  have e1 : madeCells zs.toArray (m * k) = (List.replicate m zs).flatten.toArray := by
    rw [← madeCells_rep zs (by omega) m, hzl]
  rw [e1]
  exact RowL.new w e _
theorem LL.makeE {x y : Operand} {l m : Nat} {zs : List Value} (I : ElT P T e z k bytes) (hzc : z.cells = zs.toArray) (hk : 0 < k) (ho : o.op = .makeSlice T x y) (hx : evM M x = some (.int .i64 (l : Int))) (hy : evM M y = some (.int .i64 (m : Int))) (hl : l ≤ m) (hb : bytes * m ≤ 281474976710656) (hn : m ≤ 9223372036854775807) (hd : dstB n o.dst = true) (hg : wantB ops M o.guard = some true)
    (c : ∀ w1 g, g = w.heap.size → RowL w1 g e (List.replicate m zs).flatten → w1.heap.size = g + 1 → Below w.heap.size w w1 → LL r P ops Q n D (putM M o.dst (.slice (some ⟨g, 0, none⟩) l m)) rest w1) : LL r P ops Q n D M (o :: rest) w := by
  obtain ⟨w', h1, h2, h3, h4⟩ := run_mkE I hzc hk l m hl hb hn w
  exact LL.val (R.make ho hx hy h1) hd (by rw [ho]; rfl) hg (c w' _ rfl h2 h4 h3)
/-- copy(d, s) of elements of many cells, into a row as long as what is copied. -/
theorem LL.copyE {xs : Array Operand} {dT sT : TypeId} {g : Nat} {p : Addr} {m dc sc : Nat} {row cs : List Value} (ho : o.op = .call { callee := .builtin .copy, args := xs, argTypes := #[dT, sT] }) (hx : evsM M xs.toList = some [.slice (some ⟨g, 0, none⟩) m dc, .slice (some p) m sc])
    (I : ElT P dT e z k bytes) (hr : RowL w g e row) (hcs : CellsN w p (m * k) cs) (hl : row.length = m * k) (h1 : ∀ v ∈ cs, v.oneCell' = true) (hd : dstB n o.dst = true) (hg : wantB ops M o.guard = some true)
    (c : ∀ w1, RowL w1 g e cs → w.grownBy w1 (some g) → w1.heap.size = w.heap.size → LL r P ops Q n D (putM M o.dst (.int .i64 (m : Int))) rest w1) : LL r P ops Q n D M (o :: rest) w := by
  obtain ⟨i, hi, hz, hsz, hby⟩ := I.info
  have hcl := hcs.len
  have hl1 := run_loadCells_list (P := P) w p cs hcs.at'
  rw [hcl] at hl1
  have hst := run_storeCells_at P g 0 e cs 0 row.toArray w hr (by simp; omega) h1
  have hrun : (Builtin.copy_ #[dT, sT] o.type #[.slice (some ⟨g, 0, none⟩) m dc, .slice (some p) m sc]).run P w = .ok (goInt m) (w.setRow g cs.toArray) := by
    have e1 : ((row.toArray.toList.take (0 + 0) ++ cs ++ row.toArray.toList.drop (0 + 0 + cs.length)).toArray : Array Value) = cs.toArray := by
      simp only [Nat.add_zero, List.take_zero, List.nil_append, Nat.zero_add, List.toList_toArray]
      rw [List.drop_of_length_le (by omega)]
      simp
    rw [e1] at hst
    simp [Builtin.copy_, run_underlying I.under, Builtin.lenOf, Builtin.firstCells, sizeOf, typeInfo, hi, hsz, hl1, hst]
  refine LL.val (v := .int .i64 (m : Int)) (R.builtin ho hx fun b => ?_) hd (by rw [ho]; rfl) hg (c _ (setRow_heap w g row.toArray _ e (0, 0) hr) (setRow_grown w g _) (by simp))
  unfold builtin
  simp only [Sem.run_bind, hrun, Result.andThen_ok, Sem.run_pure]
  rfl
theorem Enc.setN (E : Enc enc k) (ts : List α) (i c : Nat) (t u : α) (vs : List Value) (ht : ts[i]? = some t) (hc : c + vs.length ≤ k) (hu : enc u = (enc t).take c ++ vs ++ (enc t).drop (c + vs.length)) : (ts.flatMap enc).take (i * k + c) ++ vs ++ (ts.flatMap enc).drop (i * k + c + vs.length) = (ts.set i u).flatMap enc := by
  have hi : i < ts.length := (List.getElem?_eq_some_iff.1 ht).1
  have hlen := E.flat ts
  have hin : i * k + k ≤ ts.length * k := by
    have : (i + 1) * k ≤ ts.length * k := Nat.mul_le_mul_right _ hi
    rw [Nat.add_mul] at this
    omega
  have hself : ts.set i t = ts := by
    rw [List.getElem?_eq_getElem hi] at ht
    cases ht
    simp
  have h0 := E.set ts i t hi
  rw [hself] at h0
  have hA : ((ts.flatMap enc).take (i * k)).length = i * k := by rw [List.length_take]; omega
  have hel := E.len t
  rw [E.set ts i u hi, hu]
  have h1 : (ts.flatMap enc).take (i * k + c) = (ts.flatMap enc).take (i * k) ++ (enc t).take c := by
    conv => lhs; rw [h0]
    rw [List.append_assoc, List.take_append, hA, List.take_of_length_le (by omega), show i * k + c - i * k = c by omega, List.take_append_of_le_length (by omega)]
  have h2 : (ts.flatMap enc).drop (i * k + c + vs.length) = (enc t).drop (c + vs.length) ++ (ts.flatMap enc).drop (i * k + k) := by
    conv => lhs; rw [h0]
    rw [List.append_assoc, List.drop_append, hA, List.drop_of_length_le (l := (ts.flatMap enc).take (i * k)) (by omega), List.nil_append, show i * k + c + vs.length - i * k = c + vs.length by omega, List.drop_append_of_le_length (by omega)]
  rw [h1, h2]
  simp [List.append_assoc]
/-- A part of an element of a row, stored anew. -/
theorem LL.storeP {x y : Operand} {t : TypeId} {g off : Nat} {ts : List α} {vs : List Value} (i c : Nat) (s u : α) (ho : o.op = .store t x y) (hx : evM M x = some (.pointer (some ⟨g, off, none⟩))) (hy : evM M y = some (.agg vs.toArray)) (hz : szB P t = some vs.length) (hoff : off = i * k + c) (E : Enc enc k)
    (hr : RowL w g e (ts.flatMap enc)) (hs : ts[i]? = some s) (hc : c + vs.length ≤ k) (hu : enc u = (enc s).take c ++ vs ++ (enc s).drop (c + vs.length)) (h1 : ∀ v ∈ vs, v.oneCell' = true) (hd : o.dst = none) (hg : wantB ops M o.guard = some true)
    (kk : ∀ w', RowL w' g e ((ts.set i u).flatMap enc) → w.grownBy w' (some g) → w'.heap.size = w.heap.size → LL r P ops Q n D M rest w') : LL r P ops Q n D M (o :: rest) w := by
  have hi : i < ts.length := (List.getElem?_eq_some_iff.1 hs).1
  have hin : i * k + k ≤ ts.length * k := by
    have : (i + 1) * k ≤ ts.length * k := Nat.mul_le_mul_right _ hi
    rw [Nat.add_mul] at this
    omega
  have hf := E.flat ts
  subst hoff
  refine LL.storeN (vs := vs) ho hx hy hz hr (by omega) h1 hd hg ?_
  intro w' r' g' z'
  refine kk w' ?_ g' z'
  rw [← E.setN ts i c s u vs hs hc hu]
  exact r'
/-- A whole element of a row, stored anew. -/
theorem LL.storeR {x y : Operand} {t : TypeId} {g off : Nat} {ts : List α} (i : Nat) (u : α) (ho : o.op = .store t x y) (hx : evM M x = some (.pointer (some ⟨g, off, none⟩))) (hoff : off = i * k) (hy : evM M y = some (.agg (enc u).toArray)) (hz : szB P t = some k) (E : Enc enc k)
    (hr : RowL w g e (ts.flatMap enc)) (hi : i < ts.length) (hd : o.dst = none) (hg : wantB ops M o.guard = some true)
    (kk : ∀ w', RowL w' g e ((ts.set i u).flatMap enc) → w.grownBy w' (some g) → w'.heap.size = w.heap.size → LL r P ops Q n D M rest w') : LL r P ops Q n D M (o :: rest) w := by
  have hl := E.len u
  exact LL.storeP i 0 ts[i] u ho hx hy (by rw [hz, hl]) (by rw [hoff]; rfl) E hr (List.getElem?_eq_getElem hi) (by rw [hl]; omega) (by rw [List.take_zero, List.nil_append, List.drop_of_length_le (by rw [E.len, hl]; omega), List.append_nil]) (E.one u) hd hg kk
/-- One cell of an element of a row, stored anew. -/
theorem LL.store1 {x y : Operand} {t : TypeId} {g off : Nat} {ts : List α} {v : Value} (i c : Nat) (s u : α) (ho : o.op = .store t x y) (hx : evM M x = some (.pointer (some ⟨g, off, none⟩))) (hy : evM M y = some v) (hz : szB P t = some 1) (hoff : off = i * k + c) (E : Enc enc k)
    (hr : RowL w g e (ts.flatMap enc)) (hs : ts[i]? = some s) (hc : c < k) (hu : enc u = (enc s).set c v) (h1 : v.oneCell' = true) (hcs : v.cells = #[v]) (hd : o.dst = none) (hg : wantB ops M o.guard = some true)
    (kk : ∀ w', RowL w' g e ((ts.set i u).flatMap enc) → w.grownBy w' (some g) → w'.heap.size = w.heap.size → LL r P ops Q n D M rest w') : LL r P ops Q n D M (o :: rest) w := by
  have hi : i < ts.length := (List.getElem?_eq_some_iff.1 hs).1
  have hin : i * k + k ≤ ts.length * k := by
    have : (i + 1) * k ≤ ts.length * k := Nat.mul_le_mul_right _ hi
    rw [Nat.add_mul] at this
    omega
  have hf := E.flat ts
  subst hoff
  refine LL.store ho hx hy hz hr (by omega) h1 hcs hd hg ?_
  intro w' r' g' z'
  refine kk w' ?_ g' z'
  rw [← E.setF ts i c s u v hs hc hu]
  exact r'
/-- A row that is made, as a slice of one's own without elements. -/
theorem RowL.own0 {g cap base : Nat} {xs : List Value} (h : RowL w g e xs) (hl : xs.length = cap * k) (hb : base ≤ g) (hc : cap ≤ maxLen) : OwnsT enc k w base e (.slice (some ⟨g, 0, none⟩) 0 cap) [] :=
  ⟨by simp, .inr ⟨g, cap, xs.toArray, rfl, hb, h, Nat.zero_le _, hc, by simpa using hl, by simp⟩⟩
theorem OwnsT.vlen {base m cap : Nat} {a : Option Addr} {ts : List α} (h : OwnsT enc k w base e (.slice a m cap) ts) : ts.length = m := by
  rcases h.2 with ⟨e1, h0⟩ | ⟨g', cap', cur, e1, _⟩
  · simp only [Value.slice.injEq] at e1
    omega
  · simp only [Value.slice.injEq] at e1
    exact e1.2.1.symm
/-- append(s, x...) where there is room. -/
theorem LL.appendF {xs : Array Operand} {base g m cap : Nat} {vx : Value} {ts us : List α} (ho : o.op = .call { callee := .builtin .append, args := xs, argTypes := #[T, T] }) (hx : evsM M xs.toList = some [.slice (some ⟨g, 0, none⟩) m cap, vx]) (E : Enc enc k) (I : ElT P T e z k bytes) (hown : OwnsT enc k w base e (.slice (some ⟨g, 0, none⟩) m cap) ts) (hr : ReadsT enc k w vx us)
    (l : Nat) (hlu : us.length = l) (hne : 0 < l) (hroom : m + l ≤ cap) (hd : dstB n o.dst = true) (hg : wantB ops M o.guard = some true)
    (c : ∀ w', OwnsT enc k w' base e (.slice (some ⟨g, 0, none⟩) (m + l) cap) (ts ++ us) → w.grownBy w' (some g) → LL r P ops Q n D (putM M o.dst (.slice (some ⟨g, 0, none⟩) (m + l) cap)) rest w') : LL r P ops Q n D M (o :: rest) w := by
  have hlen := hown.vlen
  obtain ⟨i, hi, hz, hsz, hby⟩ := I.info
  obtain ⟨a, cap2, rfl, hc, hcell⟩ := hr
  obtain ⟨b, off, rfl, _, hh⟩ := hcell (by rintro rfl; simp at hlu; omega)
  subst hlu
  have hnews : ∀ j u, (us.flatMap enc)[j]? = some u → w.cell? ((⟨b, off, none⟩ : Addr).add j) = some u := fun j u hj => by
    have hjl : j < us.length * k := by
      have := (List.getElem?_eq_some_iff.1 hj).1
      rwa [E.flat] at this
    rw [Addr.add_lit, hh j hjl, hj]
  have hown' : w.ownsRow base e k (.slice (some ⟨g, 0, none⟩) m cap) m (ts.flatMap enc) := by
    have := hown
    unfold OwnsT at this
    rwa [hlen] at this
  obtain ⟨w', h1, h2, h3⟩ := run_append_fits (P := P) (w := w) base T o.type e i k I.under hi hsz g m cap _ hown' ⟨b, off, none⟩ us.length cap2 (us.flatMap enc) (E.flat us) hnews (E.ones us) hroom
  refine LL.val (v := .slice (some ⟨g, 0, none⟩) (m + us.length) cap) (R.builtin ho hx fun b => ?_) hd (by rw [ho]; rfl) hg (c w' ?_ h3)
  · unfold builtin
    simp only [Sem.run_bind, h1, Result.andThen_ok, Sem.run_pure]
  · unfold OwnsT
    rw [List.length_append, hlen, List.flatMap_append]
    exact h2
/-- A store of all of a row. -/
theorem LL.storeAll {x y : Operand} {t : TypeId} {g m : Nat} {vs xs : List Value} (ho : o.op = .store t x y) (hx : evM M x = some (.pointer (some ⟨g, 0, none⟩))) (hy : evM M y = some (.agg vs.toArray)) (hz : szB P t = some m) (hl : vs.length = m) (hr : RowL w g e xs) (hxl : xs.length = m) (h1 : ∀ v ∈ vs, v.oneCell' = true) (hd : o.dst = none) (hg : wantB ops M o.guard = some true)
    (kk : ∀ w', RowL w' g e vs → w.grownBy w' (some g) → w'.heap.size = w.heap.size → LL r P ops Q n D M rest w') : LL r P ops Q n D M (o :: rest) w := by
  refine LL.storeN (vs := vs) ho hx hy (by rw [hz, hl]) hr (by omega) h1 hd hg ?_
  intro w' r' g' z'
  refine kk w' ?_ g' z'
  have e1 : xs.take 0 ++ vs ++ xs.drop (0 + vs.length) = vs := by
    rw [List.drop_of_length_le (by omega)]
    simp
  first
    | (rw [← e1]; exact r')
    | (have := r'; simp only [List.take_zero, List.nil_append, Nat.zero_add] at this; rw [List.drop_of_length_le (by omega), List.append_nil] at this; exact this)
end
end Go.Proofs.Ytajfffoaebjnlaa
