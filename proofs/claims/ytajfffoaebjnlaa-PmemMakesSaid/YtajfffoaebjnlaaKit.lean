/- What is said of slices, over any program: 'Reads': a slice whose elements are these; small facts on worlds. -/
import Derived.WalkKit
import Derived.Lib.Hide
import Derived.RangeFuncBox
import Derived.Deep.AppendLies
import Derived.Deep.RegionLaw
import Derived.Deep.DeepMust
import Derived.WalkSpells
import Derived.WalkLawsBesides
import Derived.Lib.SlBytesConst
namespace Go.Proofs.Ytajfffoaebjnlaa
set_option linter.unusedVariables false
set_option linter.unusedSimpArgs false
open Go.RowKit

/-- v is a slice, of one-cell elements, that are xs in the world w. -/
def Reads (w : World) (v : Value) (xs : List Value) : Prop :=
  ∃ a cap, v = .slice a xs.length cap ∧ xs.length ≤ cap ∧
    (xs ≠ [] → ∃ b off, a = some ⟨b, off, none⟩ ∧ b < w.heap.size ∧ ∀ j, j < xs.length → w.cell? ⟨b, off + j, none⟩ = xs[j]?)

theorem Reads.nil (w : World) : Reads w (.slice none 0 0) [] := ⟨none, 0, rfl, Nat.le_refl _, fun h => (h rfl).elim⟩

theorem Reads.same {w w' : World} {v : Value} {xs : List Value} (h : Reads w v xs) (hs : w.heap.size ≤ w'.heap.size) (hb : ∀ k, k < w.heap.size → w'.heap[k]? = w.heap[k]?) : Reads w' v xs := by
  obtain ⟨a, cap, e, hc, h⟩ := h
  refine ⟨a, cap, e, hc, fun hne => ?_⟩
  obtain ⟨b, off, ha, hlt, hcell⟩ := h hne
  exact ⟨b, off, ha, Nat.lt_of_lt_of_le hlt hs, fun j hj => (World.cell?_of_block (hb b hlt)).trans (hcell j hj)⟩

theorem Reads.below {w w' : World} {v : Value} {xs : List Value} (h : Reads w v xs) (hb : Below w.heap.size w w') : Reads w' v xs := h.same hb.size hb.block

theorem Reads.drew {w : World} {v : Value} {xs : List Value} (h : Reads w v xs) : Reads w.drew v xs := h.same (Nat.le_refl _) fun _ _ => rfl

theorem Reads.alloc {w : World} {v : Value} {xs : List Value} (h : Reads w v xs) (o : Obj) : Reads (w.alloc o) v xs := h.below ((Below.refl _ _).alloc (Nat.le_refl _) o)

theorem reads_of_owns {w : World} {base : Nat} {e : TypeId} {v : Value} {n : Nat} {xs : List Value} (h : w.ownsRow base e 1 v n xs) : Reads w v xs := by
  have hl : xs.length = n := by simpa using h.1
  rcases h.2 with ⟨rfl, rfl⟩ | ⟨g, cap, cur, rfl, hbg, hg, hnc, hcm, hcs, htake⟩
  · have : xs = [] := List.eq_nil_of_length_eq_zero hl
    subst this
    exact Reads.nil w
  · subst hl
    refine ⟨_, cap, rfl, hnc, fun _ => ⟨g, 0, rfl, (Array.getElem?_eq_some_iff.1 hg).1, fun j hj => ?_⟩⟩
    have := h.cells (g := g) rfl j xs[j] (by simp [hj])
    simpa [Addr.add_lit, hj] using this

/-- The element k, as the walk asks for it. -/
theorem Reads.at {w : World} {a : Option Addr} {len cap : Nat} {xs : List Value} (h : Reads w (.slice a len cap) xs) : len = xs.length ∧ len ≤ cap ∧ (0 < len → ∃ b off, a = some ⟨b, off, none⟩ ∧ b < w.heap.size ∧ ∀ j, j < len → w.cell? ⟨b, off + j, none⟩ = some (xs.getD j undef)) := by
  obtain ⟨a', cap', e, hc, h⟩ := h
  cases e
  refine ⟨rfl, hc, fun hl => ?_⟩
  obtain ⟨b, off, ha, hlt, hcell⟩ := h (by intro e; simp [e] at hl)
  exact ⟨b, off, ha, hlt, fun j hj => by rw [hcell j hj]; simp [hj]⟩

theorem Reads.form {w : World} {v : Value} {xs : List Value} (h : Reads w v xs) : ∃ a cap, v = .slice a xs.length cap ∧ xs.length ≤ cap ∧ (0 < xs.length → ∃ b off, a = some ⟨b, off, none⟩ ∧ b < w.heap.size ∧ ∀ j, j < xs.length → w.cell? ⟨b, off + j, none⟩ = some (xs.getD j undef)) := by
  obtain ⟨a, cap, rfl, hc, h'⟩ := id h
  exact ⟨a, cap, rfl, hc, h.at.2.2⟩

/-- A list of numbers of a kind. -/
abbrev ints (k : IntKind) (ns : List Nat) : List Value := ns.map fun n : Nat => Value.int k (n : Int)

/-- A slice of numbers, written out. -/
theorem Reads.ints {w : World} {v : Value} {k : IntKind} {ns : List Nat} (h : Reads w v (ints k ns)) : ∃ a cap, v = .slice a ns.length cap ∧ ns.length ≤ cap ∧ (0 < ns.length → ∃ b off, a = some ⟨b, off, none⟩ ∧ b < w.heap.size ∧ ∀ j, j < ns.length → w.cell? ⟨b, off + j, none⟩ = some (.int k ((ns[j]?.getD 0 : Nat) : Int))) := by
  obtain ⟨a, cap, rfl, hc, h'⟩ := h.form
  simp only [List.length_map] at *
  refine ⟨a, cap, rfl, hc, fun hl => ?_⟩
  obtain ⟨b, off, ha, hlt, hcell⟩ := h' hl
  refine ⟨b, off, ha, hlt, fun j hj => ?_⟩
  rw [hcell j hj]
  simp [List.getD, hj]

theorem ret1 {v v' : Value} (h : v = v') : Ending.returned v = .returned v' := by rw [h]
theorem int_eq {k : IntKind} {a b : Int} (h : a = b) : Value.int k a = .int k b := by rw [h]

theorem take_snoc {α : Type} (l : List α) (d : α) (k : Nat) (h : k < l.length) : l.take (k + 1) = l.take k ++ [l[k]?.getD d] := by
  rw [List.take_succ_eq_append_getElem h]; simp [h]

/-- An element type of one cell, as the append law wants it. -/
structure El (P : Program) (T e : TypeId) (z : Value) (bytes : Nat) : Prop where
  under : P.underlying T = some (.slice e)
  info : ∃ i, P.info? e = some i ∧ i.zero = some z ∧ i.size = 1 ∧ i.bytes = bytes
  one : z.cells = #[z]

section
variable {P : Program} {T e : TypeId} {z : Value} {bytes : Nat}

/-- 'make([]T, l, n)': an equation for the walk. -/
theorem run_mk (I : El P T e z bytes) (l n : Nat) (hl : l ≤ n) (hb : bytes * n ≤ 281474976710656) (hn : n ≤ 9223372036854775807) (L C : Int) (hL : L = (l : Int)) (hC : C = (n : Int)) (w : World) :
    (Instr.makeSlice T (.int .i64 L) (.int .i64 C)).run P w = .ok (.slice (some ⟨w.heap.size, 0, none⟩) l n) (w.alloc (.cells (madeCells #[z] n) e)) := by
  subst hL hC
  obtain ⟨i, hi, hz, hsz, hby⟩ := I.info
  have hb' : (i.bytes : Int) * (n : Int) ≤ 281474976710656 := by
    have h : ((i.bytes * n : Nat) : Int) ≤ 281474976710656 := by rw [hby]; omega
    rwa [Int.natCast_mul] at h
  have h := run_make (P := P) w T e i z I.under hi hz .i64 .i64 l n (by omega) (by omega) hb' (by omega)
  simpa [hsz, I.one] using h

theorem madeCells_toList (z : Value) (n : Nat) : (madeCells #[z] n).toList = List.replicate n z := by
  apply List.ext_getElem
  · simp [size_madeCells]
  · intro k h1 h2
    simp [madeCells, Nat.mod_one]

/-- What 'make' has made is the call's own. -/
theorem owns_made {e : TypeId} {z : Value} (w : World) (l n base : Nat) (hl : l ≤ n) (hn : n ≤ maxLen) (hb : base ≤ w.heap.size) : (w.alloc (.cells (madeCells #[z] n) e)).ownsRow base e 1 (.slice (some ⟨w.heap.size, 0, none⟩) l n) l (List.replicate l z) := by
  refine ⟨by simp, .inr ⟨w.heap.size, n, madeCells #[z] n, rfl, hb, World.alloc_heap_new w _, hl, hn, by simp [size_madeCells], ?_⟩⟩
  rw [madeCells_toList]
  simp [List.take_replicate, Nat.min_eq_left hl]

/-- One element is appended to a slice that the call owns: in a region that draws its order. -/
theorem step_app {ops : Array Oper} {o : Oper} {a : Act} {w : World} {K : Act → World → Prop} {Q : Exit → Act → World → Prop} {E : Prop} (I : El P T e z bytes) {s x : Operand}
    (hgd : o.guard = none) (ho : o.op = .call { callee := .builtin .append, args := #[s, x], argTypes := #[T, T] })
    {base n c : Nat} {v u : Value} {g : Addr} {xs : List Value} (hs : a.eval s = v) (hx : a.eval x = .slice (some g) 1 c) (hown : w.ownsRow base e 1 v n xs) (hnew : w.cell? g = some u) (h1 : u.oneCell' = true)
    (hb : (n + 1) * bytes ≤ 140737488355328) (h63 : n + 1 ≤ maxLen) (hbase : base ≤ w.heap.size)
    (h : ∀ g cap w', w'.ownsRow base e 1 (.slice (some ⟨g, 0, none⟩) (n + 1) cap) (n + 1) (xs ++ [u]) → w.grownBy w' v.ownBlock → (v.ownBlock = some g ∨ g = w.heap.size) → g < w'.heap.size → K (a.put o.dst (.slice (some ⟨g, 0, none⟩) (n + 1) cap)) w') :
    if Region.wanted o (yielded ops a.tmps) = true then Oper.wp P o a w K Q else E := by
  obtain ⟨i, hi, hz, hsz, hby⟩ := I.info
  have hzs : z.cells.size = 1 := by rw [I.one]; rfl
  refine step_append_lies w hgd s x T ho base e i z 1 bytes I.under hi hz hsz hby hzs (by decide) v n xs hs hown g 1 c [u] hx rfl ?_ ?_ (by decide) h63 hb hbase _ rfl h
  · intro j u' hj
    cases j with
    | zero => simp at hj; subst hj; simpa [Addr.add] using hnew
    | succ j => simp at hj
  · intro u' hu; simp at hu; subst hu; exact h1

/-- The same at a plain region's list. -/
theorem list_app {ops : Array Oper} {rest : List Oper} {o : Oper} {a : Act} {w : World} {Q : Exit → Act → World → Prop} (I : El P T e z bytes) {s x : Operand}
    (hgd : o.guard = none) (ho : o.op = .call { callee := .builtin .append, args := #[s, x], argTypes := #[T, T] })
    {base n c : Nat} {v u : Value} {g : Addr} {xs : List Value} (hs : a.eval s = v) (hx : a.eval x = .slice (some g) 1 c) (hown : w.ownsRow base e 1 v n xs) (hnew : w.cell? g = some u) (h1 : u.oneCell' = true)
    (hb : (n + 1) * bytes ≤ 140737488355328) (h63 : n + 1 ≤ maxLen) (hbase : base ≤ w.heap.size)
    (h : ∀ g cap w', w'.ownsRow base e 1 (.slice (some ⟨g, 0, none⟩) (n + 1) cap) (n + 1) (xs ++ [u]) → w.grownBy w' v.ownBlock → (v.ownBlock = some g ∨ g = w.heap.size) → g < w'.heap.size → wpList P ops Q rest (a.put o.dst (.slice (some ⟨g, 0, none⟩) (n + 1) cap)) w') :
    wpList P ops Q (o :: rest) a w := by
  obtain ⟨i, hi, hz, hsz, hby⟩ := I.info
  have hzs : z.cells.size = 1 := by rw [I.one]; rfl
  refine wpList_append_lies w hgd s x T ho base e i z 1 bytes I.under hi hz hsz hby hzs (by decide) v n xs hs hown g 1 c [u] hx rfl ?_ ?_ (by decide) h63 hb hbase _ rfl h
  · intro j u' hj
    cases j with
    | zero => simp at hj; subst hj; simpa [Addr.add] using hnew
    | succ j => simp at hj
  · intro u' hu; simp at hu; subst hu; exact h1
end

theorem cell_new (w : World) (u : Value) (e : TypeId) : (w.alloc (.cells #[u] e)).cell? ⟨w.heap.size, 0, none⟩ = some u := by
  rw [World.cell?_alloc_at _ _ _ _ rfl]; rfl
theorem cell_new_d (w : World) (u : Value) (e : TypeId) : (w.alloc (.cells #[u] e)).drew.cell? ⟨w.heap.size, 0, none⟩ = some u := cell_new w u e

theorem grown_undrew {w w' : World} {r : Option Nat} (h : w.drew.grownBy w' r) : w.grownBy w' r := ⟨h.os, h.tape, h.output, h.size, h.block⟩

/-- A variable's box behind 'x = append(x, ..)': what the store wants, and what holds behind it. -/
theorem box_app {W w1 : World} {n₀ B : Nat} {t e : TypeId} {v v' : Value} {k m : Nat} {xs ys : List Value} {tmp : Obj}
    (hv : Boxed W B t v) (hte : t ≠ e) (hrow : W.ownsRow n₀ e 1 v k xs) (hn₀ : n₀ ≤ W.heap.size) (hB : n₀ ≤ B)
    (hown' : w1.ownsRow n₀ e 1 v' m ys) (hgrow : (W.alloc tmp).grownBy w1 v.ownBlock) :
    w1.cell? ⟨B, 0, none⟩ = some v ∧ w1.frozen? ⟨B, 0, none⟩ = false ∧ Hid (Boxed (w1.setCell ⟨B, 0, none⟩ v') B t v' ∧ (w1.setCell ⟨B, 0, none⟩ v').ownsRow n₀ e 1 v' m ys ∧ Below n₀ W (w1.setCell ⟨B, 0, none⟩ v')) :=
  let ⟨h1, h2, h3, _, h5⟩ := hv.appended hte hrow hn₀ hB hown' hgrow
  ⟨h1.cell, h1.frozen, h2, h3, h5⟩

/-- Behind one element's append to what the call owns (its element laid into a block of its own first): what lay below n0 lies as it lay. -/
theorem below_app {w w1 : World} {n0 e : Nat} {v : Value} {k : Nat} {xs : List Value} {o : Obj} (hrow : w.ownsRow n0 e 1 v k xs) (hn : n0 ≤ w.heap.size) (hg : (w.alloc o).grownBy w1 v.ownBlock) : Below n0 w w1 :=
  ((Below.refl n0 w).alloc hn o).grown hg (by simp; omega) fun j ej => by
    rcases hrow.2 with ⟨rfl, _⟩ | ⟨g, cap, cur, rfl, hb, _, _⟩
    · simp [Value.ownBlock] at ej
    · obtain rfl : g = j := by simpa [Value.ownBlock] using ej
      exact hb

/-- A block that is a row of one-cell elements, none frozen: these. -/
def RowL (w : World) (g : Nat) (e : TypeId) (xs : List Value) : Prop := w.heap[g]? = some (.cells xs.toArray e (0, 0))

theorem RowL.lt {w : World} {g e : Nat} {xs : List Value} (h : RowL w g e xs) : g < w.heap.size := (Array.getElem?_eq_some_iff.1 h).1
theorem RowL.cell {w : World} {g e : Nat} {xs : List Value} (h : RowL w g e xs) {j : Nat} {u : Value} (hu : xs[j]? = some u) : w.cell? ⟨g, j, none⟩ = some u := by
  simp [World.cell?, show w.heap[g]? = _ from h, hu]
theorem RowL.frozen {w : World} {g e : Nat} {xs : List Value} (h : RowL w g e xs) (j : Nat) : w.frozen? ⟨g, j, none⟩ = false := by
  simp [World.frozen?, show w.heap[g]? = _ from h]
theorem RowL.same {w w' : World} {g e : Nat} {xs : List Value} (h : RowL w g e xs) (hb : w'.heap[g]? = w.heap[g]?) : RowL w' g e xs := hb.trans h
theorem RowL.alloc {w : World} {g e : Nat} {xs : List Value} (h : RowL w g e xs) (o : Obj) : RowL (w.alloc o) g e xs := h.same (Below.heap_alloc w o g h.lt)
theorem RowL.drew {w : World} {g e : Nat} {xs : List Value} (h : RowL w g e xs) : RowL w.drew g e xs := h
theorem RowL.below {w w' : World} {g e B : Nat} {xs : List Value} (h : RowL w g e xs) (hb : Below B w w') (hg : g < B) : RowL w' g e xs := h.same (hb.block g hg)
theorem RowL.other {w : World} {g e : Nat} {xs : List Value} (h : RowL w g e xs) {a : Addr} (hne : g ≠ a.block) (u : Value) : RowL (w.setCell a u) g e xs := h.same (Below.heap_setCell w a u g hne)
theorem RowL.set {w : World} {g e : Nat} {xs : List Value} (h : RowL w g e xs) (j : Nat) (u : Value) : RowL (w.setCell ⟨g, j, none⟩ u) g e (xs.set j u) := by
  obtain ⟨hlt, hk⟩ := Array.getElem?_eq_some_iff.1 h
  show (w.heap.modify g _)[g]? = _
  rw [Array.getElem?_eq_getElem (by rw [Array.size_modify]; exact hlt), Array.getElem_modify_self, hk]
  simp
theorem RowL.new (w : World) (e : TypeId) (xs : List Value) : RowL (w.alloc (.cells xs.toArray e)) w.heap.size e xs := World.alloc_heap_new w _
theorem RowL.made (w : World) (e : TypeId) (z : Value) (n : Nat) : RowL (w.alloc (.cells (madeCells #[z] n) e)) w.heap.size e (List.replicate n z) := by
  have h : madeCells #[z] n = (List.replicate n z).toArray := by rw [← madeCells_toList]
  rw [h]
  exact RowL.new w e _
theorem RowL.reads {w : World} {g e : Nat} {xs : List Value} (h : RowL w g e xs) (cap : Nat) (hc : xs.length ≤ cap) : Reads w (.slice (some ⟨g, 0, none⟩) xs.length cap) xs :=
  ⟨_, cap, rfl, hc, fun _ => ⟨g, 0, rfl, h.lt, fun j hj => by rw [Nat.zero_add, h.cell (j := j) (u := xs[j]) (by simp [hj])]; simp [hj]⟩⟩
theorem RowL.owns {w : World} {g e base : Nat} {xs : List Value} (h : RowL w g e xs) (hb : base ≤ g) (hm : xs.length ≤ maxLen) : w.ownsRow base e 1 (.slice (some ⟨g, 0, none⟩) xs.length xs.length) xs.length xs :=
  ⟨by simp, .inr ⟨g, xs.length, xs.toArray, rfl, hb, h, Nat.le_refl _, hm, by simp, by simp⟩⟩
theorem box_other {w : World} {B : Nat} {t : TypeId} {v : Value} (h : Boxed w B t v) {a : Addr} (hne : B ≠ a.block) (u : Value) : Boxed (w.setCell a u) B t v := (Below.heap_setCell w a u B hne).trans h
theorem box_below {w w' : World} {B B' : Nat} {t : TypeId} {v : Value} (h : Boxed w B t v) (hb : Below B' w w') (hB : B < B') : Boxed w' B t v := (hb.block B hB).trans h

/-- A slice of numbers, written out, its length named. -/
theorem Reads.intsN {w : World} {v : Value} {k : IntKind} {ns : List Nat} {n : Nat} (h : Reads w v (Go.Proofs.Ytajfffoaebjnlaa.ints k ns)) (hn : ns.length = n) : ∃ a cap, v = .slice a n cap ∧ n ≤ cap ∧ (0 < n → ∃ b off, a = some ⟨b, off, none⟩ ∧ b < w.heap.size ∧ ∀ j, j < n → w.cell? ⟨b, off + j, none⟩ = some (.int k ((ns[j]?.getD 0 : Nat) : Int))) := by
  subst hn
  exact h.ints

section
variable {P : Program} {T e : TypeId} {z : Value} {bytes : Nat}
/-- 's[m:]': the walk's equation, and what it reads. -/
theorem run_from (I : El P T e z bytes) (a : Option Addr) (len cap m : Nat) (h : m ≤ len) (hc : len ≤ cap) :
    ∃ A, (∀ w, (Instr.slice T (.slice a len cap) (some (.int .i64 (m : Int))) none none).run P w = .ok (.slice A (len - m) (cap - m)) w) ∧
      ∀ w xs, Reads w (.slice a len cap) xs → Reads w (.slice A (len - m) (cap - m)) (xs.drop m) := by
  obtain ⟨i, hi, hz, hsz, hby⟩ := I.info
  refine ⟨if cap = m then a else a.map fun p => p.add m, fun w => ?_, fun w xs hr => ?_⟩
  · simp [Instr.slice, run_underlying I.under, Instr.sliceBounds, run_sliceBound, sizeOf, typeInfo, hi, hsz, (by omega : (m : Int) ≤ (len : Int))]
  · obtain ⟨a', cap', e', hc', hr'⟩ := hr
    cases e'
    by_cases hcm : cap = m
    · have : xs.drop m = [] := by simp; omega
      rw [this]
      refine ⟨_, _, by congr 1; simp; omega, by simp, fun hne => (hne rfl).elim⟩
    · rw [if_neg hcm]
      refine ⟨_, cap - m, by rw [List.length_drop], by simp; omega, fun hne => ?_⟩
      have hlt : m < xs.length := by
        rcases Nat.lt_or_ge m xs.length with hl | hl
        · exact hl
        · exact absurd (List.drop_eq_nil_of_le hl) hne
      obtain ⟨b, off, ha, hb, hcell⟩ := hr' (by intro e; simp [e] at hlt)
      subst ha
      refine ⟨b, off + m, by simp [Addr.add], hb, fun j hj => ?_⟩
      simp only [List.length_drop] at hj
      rw [Nat.add_assoc, hcell (m + j) (by omega)]
      simp

/-- 's[:n:n]': the walk's equation, and what it reads. -/
theorem run_upto3 (I : El P T e z bytes) (a : Option Addr) (len cap m : Nat) (h : m ≤ cap) (w : World) :
    (Instr.slice T (.slice a len cap) none (some (.int .i64 (m : Int))) (some (.int .i64 (m : Int)))).run P w = .ok (.slice a m m) w := by
  obtain ⟨i, hi, hz, hsz, hby⟩ := I.info
  simp [Instr.slice, run_underlying I.under, Instr.sliceBounds, run_sliceBound, sizeOf, typeInfo, hi, hsz, (by omega : (m : Int) ≤ (cap : Int))]
  cases a <;> simp [Addr.add]

/-- 's[:n]'. -/
theorem run_upto (I : El P T e z bytes) (a : Option Addr) (len cap m : Nat) (h : m ≤ cap) (w : World) :
    (Instr.slice T (.slice a len cap) none (some (.int .i64 (m : Int))) none).run P w = .ok (.slice a m cap) w := by
  obtain ⟨i, hi, hz, hsz, hby⟩ := I.info
  simp [Instr.slice, run_underlying I.under, Instr.sliceBounds, run_sliceBound, sizeOf, typeInfo, hi, hsz, (by omega : (m : Int) ≤ (cap : Int))]
  cases a <;> simp [Addr.add]
end

theorem Reads.take {w : World} {a : Option Addr} {len cap : Nat} {xs : List Value} (h : Reads w (.slice a len cap) xs) (m : Nat) (hm : m ≤ len) (c : Nat) (hc : m ≤ c) : Reads w (.slice a m c) (xs.take m) := by
  obtain ⟨a', cap', e', hc', h'⟩ := h
  cases e'
  refine ⟨a, c, by simp [Nat.min_eq_left hm], by simp; omega, fun hne => ?_⟩
  obtain ⟨b, off, ha, hb, hcell⟩ := h' (by intro e; simp [e] at hne)
  refine ⟨b, off, ha, hb, fun j hj => ?_⟩
  simp only [List.length_take] at hj
  rw [hcell j (by omega)]
  rw [List.getElem?_take, if_pos (by omega)]

/-- A literal's row, marked or not. -/
theorem reads_new (w : World) (e : TypeId) (xs : List Value) (fr : Nat × Nat) (cap : Nat) (hc : xs.length ≤ cap) : Reads (w.alloc (.cells xs.toArray e fr)) (.slice (some ⟨w.heap.size, 0, none⟩) xs.length cap) xs :=
  ⟨_, cap, rfl, hc, fun _ => ⟨w.heap.size, 0, rfl, by simp, fun j hj => by
    have h := World.alloc_heap_new w (.cells xs.toArray e fr)
    rw [Nat.zero_add]
    unfold World.cell?
    dsimp only
    rw [h]
    simp⟩⟩

/-- One operation whose run is known, at a plain region's list. -/
theorem list_run {P : Program} {ops : Array Oper} {rest : List Oper} {o : Oper} {a : Act} {w w' : World} {Q : Exit → Act → World → Prop} {v : Value} (hw : Region.wanted o (yielded ops a.tmps) = true)
    (hr : (execOp a.eval o).run P w = .ok (.value v) w') (h : wpList P ops Q rest (a.put o.dst v) w') : wpList P ops Q (o :: rest) a w :=
  wpList_step fun K hK => by
    rw [if_pos hw]
    unfold Oper.wp
    rw [hr]
    exact hK _ _ h

/-- The text that bytes make. -/
def strB (bs : List Nat) : ByteArray := ⟨(bs.map UInt8.ofNat).toArray⟩

theorem strB_toList (bs : List Nat) : (strB bs).data.toList = bs.map UInt8.ofNat := by simp [strB]

theorem bytes_inj (xs ys : List Nat) (hx : ∀ x ∈ xs, x < 256) (hy : ∀ y ∈ ys, y < 256) (h : xs.map UInt8.ofNat = ys.map UInt8.ofNat) : xs = ys := by
  have e3 := congrArg (List.map UInt8.toNat) h
  simp only [List.map_map] at e3
  rw [List.map_congr_left (g := id) (fun x hx' => by simp [Nat.mod_eq_of_lt (hx x hx')]), List.map_congr_left (l := ys) (g := id) (fun y hy' => by simp [Nat.mod_eq_of_lt (hy y hy')])] at e3
  simpa using e3

theorem strB_eq (xs ys : List Nat) (hx : ∀ x ∈ xs, x < 256) (hy : ∀ y ∈ ys, y < 256) : ((strB xs).toList == (strB ys).toList) = decide (xs = ys) := by
  by_cases h : xs = ys
  · subst h; simp
  · rw [decide_eq_false h, beq_eq_false_iff_ne]
    intro e
    apply h
    rw [ByteArray.toList_eq, ByteArray.toList_eq, strB_toList, strB_toList] at e
    exact bytes_inj xs ys hx hy e

theorem fold_strB (bs : List Nat) (r : ByteArray) : (bs.map fun n : Nat => (n : Int)).foldl (fun r n => r.push (UInt8.ofNat n.toNat)) r = ⟨r.data ++ (bs.map UInt8.ofNat).toArray⟩ := by
  induction bs generalizing r with
  | nil => simp
  | cons b bs ih => simp only [List.map_cons, List.foldl_cons, ih]; simp [ByteArray.push]

/-- 'string(b)'. -/
theorem run_str {P : Program} {S T e : TypeId} {w : World} {v : Value} {bs : List Nat} (hS : P.underlying S = some (.slice e)) (he : P.underlying e = some (.int .u8)) (hT : P.underlying T = some .string)
    (h : Reads w v (Go.Proofs.Ytajfffoaebjnlaa.ints .u8 bs)) : (convert S T v).run P w = .ok (.string (strB bs)) w := by
  obtain ⟨a, cap, rfl, hc, hcells⟩ := h.ints
  rw [run_convert_bytes_string w S T e a bs.length cap hS he hT]
  cases a with
  | none =>
    have : bs = [] := by
      rcases Nat.eq_zero_or_pos bs.length with h0 | h0
      · exact List.eq_nil_of_length_eq_zero h0
      · obtain ⟨b, off, ha, _⟩ := hcells h0
        cases ha
    subst this
    simp [Conv.bytesToString, Sem.run_pure, strB]
    rfl
  | some p =>
    have hl : (loadCells p bs.length).run P w = .ok ((bs.map fun n : Nat => (n : Int)).map (Value.int .u8)).toArray w := by
      have hh := run_loadCells_list (P := P) (w := w) p ((bs.map fun n : Nat => (n : Int)).map (Value.int .u8)) (fun j v hj => by
        have hjl : j < bs.length := by
          rcases Nat.lt_or_ge j bs.length with hl | hl
          · exact hl
          · rw [List.getElem?_eq_none (by simpa using hl)] at hj; cases hj
        obtain ⟨b, off, ha, _, hcell⟩ := hcells (by omega)
        cases ha
        have hx := hcell j hjl
        simp [hjl] at hj
        subst hj
        simpa [Addr.add_lit, hjl] using hx)
      simpa using hh
    rw [run_bytesToString w p bs.length cap _ hl, fold_strB]
    rw [show ByteArray.empty.data = #[] from rfl]
    simp [strB]

theorem run_append_nilsrc {P : Program} (w : World) {t ty e : TypeId} {i : TypeInfo} (ht : P.underlying t = some (.slice e)) (hi : P.info? e = some i) (g n cap c : Nat) (h : n ≤ cap) :
    (Builtin.append_ #[t, t] ty #[.slice (some ⟨g, 0, none⟩) n cap, .slice none 0 c]).run P w = .ok (.slice (some ⟨g, 0, none⟩) n cap) w := by
  simp [Builtin.append_, run_underlying ht, sizeOf, typeInfo, hi, Builtin.lenOf, Builtin.firstCells, loadCells, loadCellsFrom, h, storeCells]
theorem run_append_nilnil {P : Program} (w : World) {t ty e : TypeId} {i : TypeInfo} (ht : P.underlying t = some (.slice e)) (hi : P.info? e = some i) (c : Nat) :
    (Builtin.append_ #[t, t] ty #[.slice none 0 0, .slice none 0 c]).run P w = .ok (.slice none 0 0) w := by
  simp [Builtin.append_, run_underlying ht, sizeOf, typeInfo, hi, Builtin.lenOf, Builtin.firstCells, loadCells, loadCellsFrom]

theorem grown_refl (w : World) (r : Option Nat) : w.grownBy w r := ⟨rfl, rfl, rfl, Nat.le_refl _, fun _ _ _ => rfl⟩

section
variable {P : Program} {T e : TypeId} {z : Value} {bytes : Nat}
/-- 'append(s, x...)': a whole slice behind one that the call owns. -/
theorem run_append_all (I : El P T e z bytes) (ty : TypeId) {base n : Nat} {v vx : Value} {xs ys : List Value} {w : World} (hown : w.ownsRow base e 1 v n xs) (hr : Reads w vx ys) (hone : ∀ u ∈ ys, u.oneCell' = true)
    (h63 : n + ys.length ≤ maxLen) (hb : (n + ys.length) * bytes ≤ 140737488355328) (hbase : base ≤ w.heap.size) :
    ∃ v' w', (Builtin.append_ #[T, T] ty #[v, vx]).run P w = .ok v' w' ∧ w'.ownsRow base e 1 v' (n + ys.length) (xs ++ ys) ∧ w.grownBy w' v.ownBlock := by
  obtain ⟨i, hi, hz, hsz, hby⟩ := I.info
  have hzs : z.cells.size = 1 := by rw [I.one]; rfl
  obtain ⟨a, cap, rfl, hc, hcell⟩ := hr
  cases a with
  | none =>
    have hys : ys = [] := by
      rcases Classical.em (ys = []) with h | h
      · exact h
      · obtain ⟨b, off, ha, _⟩ := hcell h
        cases ha
    subst hys
    rcases id hown.2 with ⟨rfl, rfl⟩ | ⟨g, cp, cur, rfl, hbg, hg, hnc, hcm, hcs, htake⟩
    · exact ⟨_, w, run_append_nilnil w I.under hi cap, by simpa using hown, grown_refl w _⟩
    · exact ⟨_, w, run_append_nilsrc w I.under hi g n cp cap hnc, by simpa using hown, grown_refl w _⟩
  | some p =>
    obtain ⟨v', w', h1, h2, h3, _⟩ := run_append_own (P := P) w base T ty e i z 1 bytes I.under hi hz hsz hby hzs (by decide) v n xs hown p ys.length cap ys (by simp)
      (fun j u hj => by
        have hjl : j < ys.length := by
          rcases Nat.lt_or_ge j ys.length with hl | hl
          · exact hl
          · rw [List.getElem?_eq_none hl] at hj; cases hj
        obtain ⟨b, off, ha, _, hh⟩ := hcell (by intro e; simp [e] at hjl)
        cases ha
        rw [Addr.add_lit, hh j hjl, hj]) hone h63 hb hbase
    exact ⟨v', w', h1, h2, h3⟩

theorem list_appall {ops : Array Oper} {rest : List Oper} {o : Oper} {a : Act} {w : World} {Q : Exit → Act → World → Prop} (I : El P T e z bytes) {s x : Operand}
    (hgd : o.guard = none) (ho : o.op = .call { callee := .builtin .append, args := #[s, x], argTypes := #[T, T] })
    {base n : Nat} {v vx : Value} {xs ys : List Value} (hs : a.eval s = v) (hx : a.eval x = vx) (hown : w.ownsRow base e 1 v n xs) (hr : Reads w vx ys) (hone : ∀ u ∈ ys, u.oneCell' = true)
    (h63 : n + ys.length ≤ maxLen) (hb : (n + ys.length) * bytes ≤ 140737488355328) (hbase : base ≤ w.heap.size)
    (h : ∀ v' w', w'.ownsRow base e 1 v' (n + ys.length) (xs ++ ys) → w.grownBy w' v.ownBlock → wpList P ops Q rest (a.put o.dst v') w') :
    wpList P ops Q (o :: rest) a w :=
  wpList_plain hgd fun K hK => by
    obtain ⟨v', w', hr', h2, h3⟩ := run_append_all I o.type hown hr hone h63 hb hbase
    unfold Oper.wp execOp
    simp only [ho, resolve, invoke, builtin, Sem.run_bind, Sem.run_pure, Result.andThen_ok, List.map_toArray, List.map_cons, List.map_nil, hs, hx, hr']
    exact hK _ _ (h v' w' h2 h3)
end

theorem ints_one (k : IntKind) (ns : List Nat) : ∀ u ∈ Go.Proofs.Ytajfffoaebjnlaa.ints k ns, u.oneCell' = true := by
  intro u hu
  simp only [List.mem_map] at hu
  obtain ⟨n, _, rfl⟩ := hu
  rfl

/-- Behind 'append([]T{}, x...)'. -/
theorem copy_below {W w1 : World} {o : Obj} {n c : Nat} (h : (W.alloc o).grownBy w1 (Value.slice (some ⟨W.heap.size, 0, none⟩) n c).ownBlock) : Below W.heap.size W w1 :=
  ((Below.refl _ W).alloc (Nat.le_refl _) o).grown h (by simp) (by intro k hk; simp [Value.ownBlock] at hk; omega)
theorem copy_reads {w1 : World} {base e m : Nat} {v : Value} {ys : List Value} (h : w1.ownsRow base e 1 v m ([] ++ ys)) : Reads w1 v ys := reads_of_owns h

/-- An empty literal. -/
theorem owns_empty (w : World) (e base : Nat) (hb : base ≤ w.heap.size) : (w.alloc (.cells #[] e)).ownsRow base e 1 (.slice (some ⟨w.heap.size, 0, none⟩) 0 0) 0 [] :=
  ⟨rfl, .inr ⟨w.heap.size, 0, #[], rfl, hb, World.alloc_heap_new w _, Nat.le_refl _, by simp [maxLen], rfl, rfl⟩⟩
end Go.Proofs.Ytajfffoaebjnlaa
