/- A range over a function, for any body and any iterator, one that itself ranges over an iterator too: 'Gives': what an iterator's value gives; 'range_out', 'range_in': the statement, outermost and in a round. All at the wide fence. Over any program. -/
import Derived.RangeFuncNested
import Derived.RangeFuncBound
import Derived.RangeFuncCalls
import Derived.RangeFuncLeaves
import Derived.Shelf.Abstract
import Derived.Shelf.RegionOpen
import Derived.WalkKit
import Derived.OwnWalkIn
import Derived.TacticsInMore
import Derived.LoopNIn
import Derived.LoopIn
import Derived.Test.YtajfffoaebjnlaaKit
namespace Go.Proofs.Ytajfffoaebjnlaa
set_option linter.unusedVariables false
set_option linter.unusedSimpArgs false
open Go.RowKit Go.Shelf

/-- What a round keeps for the iterator: blocks from B on that the iterator laid (below m), and all that hold no cells. -/
structure Stays (B m : Nat) (W W' : World) : Prop where
  size : W.heap.size ≤ W'.heap.size
  same : ∀ (k : Nat) (o : Obj), B ≤ k → W.heap[k]? = some o → (k < m ∨ o.isCells = false) → W'.heap[k]? = some o

/-- What an iterator's own steps may turn: no more than that. -/
structure Turns (B m : Nat) (W W' : World) : Prop where
  os : W'.os = W.os
  tape : W'.tape = W.tape
  output : W'.output = W.output
  size : W.heap.size ≤ W'.heap.size
  same : ∀ (k : Nat) (o : Obj), W.heap[k]? = some o → (k < B ∨ (m ≤ k ∧ o.isCells = true)) → W'.heap[k]? = some o

def Abides {β : Type} (B m : Nat) (J : β → World → Prop) : Prop := ∀ s W W', J s W → Turns B m W W' → J s W'

section small
variable {B B' m n : Nat} {W W' W'' X Y : World}

theorem Stays.refl (B m : Nat) (W : World) : Stays B m W W := ⟨Nat.le_refl _, fun _ _ _ h _ => h⟩
theorem Stays.trans (h : Stays B m X W) (k : Stays B m W Y) : Stays B m X Y := ⟨Nat.le_trans h.size k.size, fun i o hb ho hc => k.same i o hb (h.same i o hb ho hc) hc⟩
theorem Stays.mono (h : Stays B m X W) (hb : B ≤ B') : Stays B' m X W := ⟨h.size, fun k o hk => h.same k o (Nat.le_trans hb hk)⟩
theorem Stays.of_below (h : Below W.heap.size W W') : Stays B m W W' :=
  ⟨h.size, fun k _ _ hk _ => (h.block k (Array.getElem?_eq_some_iff.1 hk).1).trans hk⟩
theorem Stays.alloc (h : Stays B m X W) (o : Obj) : Stays B m X (W.alloc o) := h.trans (.of_below ((Below.refl _ _).alloc (Nat.le_refl _) o))
theorem Stays.drew (h : Stays B m X W) : Stays B m X W.drew := h.trans (.of_below ((Below.refl _ _).drew))
/-- A store into a block of cells that lies ahead of B, or behind m. -/
theorem Stays.setCell (h : Stays B m X W) {p : Addr} {v : Value} (hv : W.cell? p = some v) (hp : p.block < B ∨ m ≤ p.block) (u : Value) : Stays B m X (W.setCell p u) := by
  refine h.trans ⟨by simp [World.setCell], fun k o hb hk hc => ?_⟩
  rw [Below.heap_setCell _ _ _ _ (fun e => ?_)]
  · exact hk
  · subst e
    obtain ⟨o', ho', hc'⟩ := cells_of_cell hv
    rw [hk] at ho'; cases ho'
    rcases hc with hc | hc
    · omega
    · rw [hc'] at hc; cases hc
theorem Stays.keeps (h : Stays B m X W) : KeepsFrom B X W := ⟨h.size, fun k o hb hk hc => h.same k o hb hk (.inr hc)⟩
theorem Stays.record {l : Nat} {r : Loop} (h : Stays B m X W) (hb : B ≤ l) (hl : X.heap[l]? = some (.loop r)) : W.heap[l]? = some (.loop r) := h.same l _ hb hl (.inr rfl)
/-- A turn of a block ahead of B. -/
theorem Stays.turn {l : Nat} {o : Obj} (hb : l < B) : Stays B m W (W.putObj l o) :=
  ⟨by simp, fun k _ hk hx _ => (World.putObj_heap_other (by omega)).trans hx⟩

theorem Stays.block (h : Stays B m X W) {a : Addr} {v : Value} (hv : X.cell? a = some v) (hb : B ≤ a.block) (hm : a.block < m) : W.heap[a.block]? = X.heap[a.block]? := by
  obtain ⟨o, ho, hc⟩ := cells_of_cell hv
  exact (h.same _ _ hb ho (.inl hm)).trans ho.symm
theorem Stays.cell (h : Stays B m X W) {a : Addr} {v : Value} (hv : X.cell? a = some v) (hb : B ≤ a.block) (hm : a.block < m) : W.cell? a = some v := (World.cell?_of_block (h.block hv hb hm)).trans hv
theorem Stays.frozen (h : Stays B m X W) {a : Addr} {v : Value} (hv : X.cell? a = some v) (hb : B ≤ a.block) (hm : a.block < m) : W.frozen? a = X.frozen? a := World.frozen?_of_block (h.block hv hb hm)

theorem Turns.refl (B m : Nat) (W : World) : Turns B m W W := ⟨rfl, rfl, rfl, Nat.le_refl _, fun _ _ h _ => h⟩
theorem Turns.trans (h : Turns B m X W) (k : Turns B m W Y) : Turns B m X Y :=
  ⟨k.os.trans h.os, k.tape.trans h.tape, k.output.trans h.output, Nat.le_trans h.size k.size, fun i o ho hc => k.same i o (h.same i o ho hc) hc⟩
theorem Turns.mono (h : Turns B' m X W) (hb : B ≤ B') : Turns B m X W := ⟨h.os, h.tape, h.output, h.size, fun k o hk hc => h.same k o hk (hc.imp (fun h => by omega) id)⟩
theorem Turns.of_below (h : Below W.heap.size W W') : Turns B m W W' :=
  ⟨h.os, h.tape, h.output, h.size, fun k _ hk _ => (h.block k (Array.getElem?_eq_some_iff.1 hk).1).trans hk⟩
theorem Turns.alloc (h : Turns B m X W) (o : Obj) : Turns B m X (W.alloc o) := h.trans (.of_below ((Below.refl _ _).alloc (Nat.le_refl _) o))
theorem Turns.drew (h : Turns B m X W) : Turns B m X W.drew := h.trans (.of_below ((Below.refl _ _).drew))
theorem Turns.setCell (h : Turns B m X W) {p : Addr} (hp : B ≤ p.block) (hm : p.block < m) (u : Value) : Turns B m X (W.setCell p u) :=
  h.trans ⟨rfl, rfl, rfl, by simp [World.setCell], fun k o hk hc => (Below.heap_setCell _ _ _ _ (by omega)).trans hk⟩
theorem Turns.putObj (h : Turns B m X W) {l : Nat} {o : Obj} (o' : Obj) (hb : B ≤ l) (hl : W.heap[l]? = some o) (ho : o.isCells = false) : Turns B m X (W.putObj l o') :=
  h.trans ⟨rfl, rfl, rfl, by simp, fun k x hk hc => by
    refine (World.putObj_heap_other (fun e => ?_)).trans hk
    subst e; rw [hl] at hk; cases hk; rcases hc with hc | ⟨_, hc⟩
    · omega
    · rw [ho] at hc; cases hc⟩
/-- A row of new cells, laid since, may be turned, too: what lay ahead is what counts. -/
theorem Turns.cell (h : Turns B m W W') {a : Addr} {v : Value} (hv : W.cell? a = some v) (hb : a.block < B ∨ m ≤ a.block) : W'.cell? a = some v := by
  obtain ⟨o, ho, hc⟩ := cells_of_cell hv
  refine (World.cell?_of_block ((h.same _ _ ho ?_).trans ho.symm)).trans hv
  rcases hb with hb | hb
  · exact .inl hb
  · exact .inr ⟨hb, hc⟩
theorem Turns.frozen (h : Turns B m W W') {a : Addr} {v : Value} (hv : W.cell? a = some v) (hb : a.block < B ∨ m ≤ a.block) : W'.frozen? a = W.frozen? a := by
  obtain ⟨o, ho, hc⟩ := cells_of_cell hv
  refine World.frozen?_of_block ((h.same _ _ ho ?_).trans ho.symm)
  rcases hb with hb | hb
  · exact .inl hb
  · exact .inr ⟨hb, hc⟩
theorem Turns.below (h : Turns B m W W') (hn : n ≤ B) (hs : n ≤ W.heap.size) : Below n W W' := ⟨h.os, h.tape, h.output, h.size, fun k hk => by
  have hlt : k < W.heap.size := by omega
  have ho := Array.getElem?_eq_getElem hlt
  exact (h.same k _ ho (.inl (by omega))).trans ho.symm⟩
/-- The rest of a world's blocks ahead of n stays, of cells just these. -/
theorem Below.alloc0 (w : World) (o : Obj) : Below w.heap.size w (w.alloc o) := (Below.refl _ _).alloc (Nat.le_refl _) o
/-- A box just laid. -/
theorem box_new (W : World) (v : Value) (t : TypeId) : (W.alloc (.cells #[v] t)).cell? ⟨W.heap.size, 0, none⟩ = some v ∧ (W.alloc (.cells #[v] t)).frozen? ⟨W.heap.size, 0, none⟩ = false :=
  ⟨cell_new W v t, by rw [World.frozen?, World.alloc_heap_new]; rfl⟩
theorem box_alloc {W : World} {a : Addr} {v : Value} (h : W.cell? a = some v ∧ W.frozen? a = false) (o : Obj) : (W.alloc o).cell? a = some v ∧ (W.alloc o).frozen? a = false :=
  ⟨cell_kept h.1 (World.grownBy_alloc W o none) (fun r e => by cases e), (frozen_kept h.1 (World.grownBy_alloc W o none) (fun r e => by cases e)).trans h.2⟩
theorem taken_below {l : Nat} {o : Obj} (h : Below X.heap.size X W) (hl : X.heap.size ≤ l) : Below X.heap.size X (W.putObj l o) :=
  h.grown (grownBy_putObj' _ _ _) h.size (fun k e => by cases e; exact hl)
theorem box_kept {a : Addr} {v : Value} (h : W.cell? a = some v ∧ W.frozen? a = false) (hb : Below n W Y) (ha : a.block < n) : Y.cell? a = some v ∧ Y.frozen? a = false :=
  ⟨(hb.cell ha).trans h.1, (World.frozen?_of_block (hb.block _ ha)).trans h.2⟩
theorem grown_cell {a : Addr} {v : Value} {row : Option Nat} (h : W.cell? a = some v) (hg : W.grownBy Y row) (ha : some a.block ≠ row) : Y.cell? a = some v := by
  obtain ⟨o, ho, _⟩ := cells_of_cell h
  exact (World.cell?_of_block (hg.block _ (Array.getElem?_eq_some_iff.1 ho).1 ha)).trans h
theorem World.grownBy_refl (W : World) (row : Option Nat) : W.grownBy W row := ⟨rfl, rfl, rfl, Nat.le_refl _, fun _ _ _ => rfl⟩
theorem grown_trans {row : Option Nat} (h : X.grownBy W row) (k : W.grownBy Y row) : X.grownBy Y row :=
  ⟨k.os.trans h.os, k.tape.trans h.tape, k.output.trans h.output, Nat.le_trans h.size k.size, fun i hi hne => (k.block i (Nat.lt_of_lt_of_le hi h.size) hne).trans (h.block i hi hne)⟩
end small

section abides
variable {β : Type} {B m : Nat}
theorem Abides.and {I J : β → World → Prop} (h : Abides B m I) (k : Abides B m J) : Abides B m (fun s W => I s W ∧ J s W) := fun s W W' hs ht => ⟨h s W W' hs.1 ht, k s W W' hs.2 ht⟩
theorem Abides.pure (p : β → Prop) : Abides B m (fun s (_ : World) => p s) := fun _ _ _ hs _ => hs
theorem Abides.below {n : Nat} {w₀ : World} (hn : n ≤ B) (hs : n ≤ w₀.heap.size) : Abides B m (fun (_ : β) W => Below n w₀ W) :=
  fun _ _ _ hs' ht => hs'.trans (ht.below hn (Nat.le_trans hs hs'.size))
theorem Abides.cell {b : Addr} (hb : b.block < B) (f : β → Value) : Abides B m (fun s W => W.cell? b = some (f s) ∧ W.frozen? b = false) :=
  fun _ _ _ hs ht => ⟨ht.cell hs.1 (.inl hb), (ht.frozen hs.1 (.inl hb)).trans hs.2⟩
theorem Abides.mono {B' : Nat} {I : β → World → Prop} (h : Abides B m I) (hb : B ≤ B') : Abides B' m I := fun s W W' hs ht => h s W W' hs (ht.mono hb)
theorem Abides.ex {γ : Type} {I : γ → β → World → Prop} (h : ∀ c, Abides B m (I c)) : Abides B m (fun s W => ∃ c, I c s W) := fun s W W' ⟨c, hs⟩ ht => ⟨c, h c s W W' hs ht⟩
theorem Abides.putObj {I : β → World → Prop} (h : Abides B m I) {s : β} {W : World} {l : Nat} {o : Obj} (o' : Obj) (hs : I s W) (hb : B ≤ l) (hl : W.heap[l]? = some o) (ho : o.isCells = false) : I s (W.putObj l o') :=
  h s W _ hs ((Turns.refl _ _ _).putObj o' hb hl ho)
theorem Abides.alloc {I : β → World → Prop} (h : Abides B m I) {s : β} {W : World} (o : Obj) (hs : I s W) : I s (W.alloc o) := h s W _ hs ((Turns.refl _ _ _).alloc o)
/-- A counter's box: all else that lay lies as it lay. -/
theorem counted {α : Type} {W0 : World} {b : Nat} (hb : b < W0.heap.size) :
    Abides W0.heap.size m (fun (pre : List α) W' => W0.grownBy W' (some b) ∧ W'.cell? ⟨b, 0, none⟩ = some (.int .i64 (pre.length : Nat)) ∧ W'.frozen? ⟨b, 0, none⟩ = false) :=
  fun pre X Y hs ht => ⟨⟨ht.os.trans hs.1.os, ht.tape.trans hs.1.tape, ht.output.trans hs.1.output, Nat.le_trans hs.1.size ht.size, fun k hk hne => by
      have hx := hs.1.block k hk hne
      have ho := Array.getElem?_eq_getElem hk
      exact (ht.same k _ (hx.trans ho) (.inl hk)).trans ho.symm⟩,
    ht.cell hs.2.1 (.inl hb), (ht.frozen hs.2.1 (.inl hb)).trans hs.2.2⟩
theorem Stays.of_grown {b : Nat} {W W' : World} (h : W.grownBy W' (some b)) (hb : b < B) : Stays B m W W' :=
  ⟨h.size, fun k o hk ho _ => (h.block k (Array.getElem?_eq_some_iff.1 ho).1 (by simp; omega)).trans ho⟩
end abides

/-- What an iterator reads between two rounds: these blocks lie as they lay. -/
structure Keeps (D : Nat → Prop) (W W' : World) : Prop where
  size : W.heap.size ≤ W'.heap.size
  same : ∀ k, D k → W'.heap[k]? = W.heap[k]?
section keeps
variable {D : Nat → Prop} {X W Y : World}
theorem Keeps.refl (D : Nat → Prop) (W : World) : Keeps D W W := ⟨Nat.le_refl _, fun _ _ => rfl⟩
theorem Keeps.trans (h : Keeps D X W) (k : Keeps D W Y) : Keeps D X Y := ⟨Nat.le_trans h.size k.size, fun i hi => (k.same i hi).trans (h.same i hi)⟩
theorem Keeps.of_below (hd : ∀ k, D k → k < W.heap.size) (h : Below W.heap.size W Y) : Keeps D W Y := ⟨h.size, fun k hk => h.block k (hd k hk)⟩
theorem Keeps.setCell (h : Keeps D X W) {p : Addr} (hp : ¬ D p.block) (u : Value) : Keeps D X (W.setCell p u) :=
  h.trans ⟨by simp [World.setCell], fun k hk => Below.heap_setCell _ _ _ _ (fun e => hp (e ▸ hk))⟩
theorem Keeps.putObj (h : Keeps D X W) {l : Nat} (hl : ¬ D l) (o : Obj) : Keeps D X (W.putObj l o) :=
  h.trans ⟨by simp, fun k hk => World.putObj_heap_other (fun e => hl (e ▸ hk))⟩
theorem Keeps.cell (h : Keeps D X W) {p : Addr} (hp : D p.block) : W.cell? p = X.cell? p := World.cell?_of_block (h.same _ hp)
theorem Keeps.mono {D' : Nat → Prop} (h : Keeps D X W) (hd : ∀ k, D' k → D k) : Keeps D' X W := ⟨h.size, fun k hk => h.same k (hd k hk)⟩
theorem Keeps.of_grown {D : Nat → Prop} {b : Nat} {W W' : World} (h : W.grownBy W' (some b)) (hd : ∀ k, D k → k < W.heap.size ∧ k ≠ b) : Keeps D W W' :=
  ⟨h.size, fun k hk => h.block k (hd k hk).1 (by simpa using (hd k hk).2)⟩
end keeps

/-- HOW THE BODY OF A ROUND MAY BE LEFT. -/
def roundP {α : Type} (B m : Nat) (D : Nat → Prop) (I : Nat → List α → World → Prop) (Ix : Code → Nat → List α → World → Prop) (xs : List α) (W : World) : Exit → Act → World → Prop
  | .normal, _, W' => Stays B m W W' ∧ Keeps D W W' ∧ I m xs W'
  | .ret, _, W' => Stays B m W W' ∧ Ix .ret m xs W'
  | .exit id, _, W' => Stays B m W W' ∧ Ix (.exit id) m xs W'
  | .goto t, _, W' => Stays B m W W' ∧ Ix (.goto t) m xs W'
  | .panic _, _, _ => False
  | .outgrown, _, _ => False

/-- A list begins as one of S does. -/
def Part {α : Type} (S : List α → Prop) (pre : List α) : Prop := ∃ xs, S xs ∧ pre <+: xs

/-- WHAT AN ITERATOR'S VALUE GIVES: one of the lists of S, or a beginning of one, where a round has said 'no more'. -/
def Gives {α : Type} (P : Program) (g : Nat) (lb : Array Value) (encs : α → Array Value) (D : Nat → Prop) (S : List α → Prop) (w : World) : Prop :=
  ∀ (l : Nat) (J Jx : Nat → List α → World → Prop) (W : World), Below w.heap.size w W → (∀ m, Abides W.heap.size m (J m)) → (∀ m, Abides W.heap.size m (Jx m)) →
    (∀ m pre x W1, W.heap.size ≤ m → J m pre W1 → Part S (pre ++ [x]) → YieldAt Fence.wide 3 P l (encs x) W1 fun e W' =>
      Stays W.heap.size m W1 W' ∧ ((e = .returned (.bool true) ∧ J m (pre ++ [x]) W' ∧ Keeps D W1 W') ∨ (e = .returned (.bool false) ∧ Jx m (pre ++ [x]) W'))) →
    (∀ m, J m [] W) →
    Calls P g (#[.func (.yield l) #[] #[]] ++ lb) W fun e W' => (∃ v, e = .returned v) ∧ ((∃ m xs, S xs ∧ J m xs W') ∨ (∃ m pre, Part S pre ∧ Jx m pre W'))

theorem Gives.later {α : Type} {P : Program} {g : Nat} {lb : Array Value} {encs : α → Array Value} {D : Nat → Prop} {S : List α → Prop} {w w' : World}
    (h : Gives P g lb encs D S w) (hb : Below w.heap.size w w') : Gives P g lb encs D S w' :=
  fun l J Jx W hW hJ hJx hY h0 => h l J Jx W (hb.trans (hW.mono hb.size)) hJ hJx hY h0

section core
variable {α : Type} {P : Program}

theorem core {l B d gf : Nat} {D : Nat → Prop} {fn : FuncId} {tm : Array Value} {ps : Array Tmp} {assign body : Code} {lb : Array Value} {encs : α → Array Value} {S : List α → Prop} {w0 W1 : World}
    (hseq : Gives P gf lb encs D S w0) (hb : Below w0.heap.size w0 W1)
    (hl : W1.heap[l]? = some (.loop { state := .ready, pending := none, fn, tmps := tm, params := ps, assign, body, defers := d }))
    (hBl : B ≤ l) (hn : ∀ k, D k → k < l) (hps : ∀ x, (encs x).size = ps.size)
    (I : Nat → List α → World → Prop) (Ix : Code → Nat → List α → World → Prop) (hI : ∀ m, Abides B m (I m)) (hIx : ∀ c m, Abides B m (Ix c m)) (h0 : ∀ m, I m [] W1)
    (Ax : α → Act → World → Prop) (hAx : ∀ x a', OwnFrom B (fun (_ : Unit) W => Ax x a' W))
    (hassign : ∀ m pre x W (K : Act → World → Prop), W1.heap.size ≤ m → I m pre W → (∀ a' W', Stays B m W W' → Keeps D W W' → I m pre W' → Ax x a' W' → K a' W') →
      assign.wpIn (Fence.wide.inRound l) 3 P (Exit.then K (fun _ _ _ => False)) { tmps := (ps.zip (encs x)).foldl (fun t (p, v) => t.setIfInBounds p v) tm, defers := [] } W)
    (hbody : ∀ m pre x a' W, W1.heap.size ≤ m → (∃ r, W.heap[l]? = some (.loop r)) → I m pre W → Ax x a' W → Part S (pre ++ [x]) →
      body.wpIn (Fence.wide.inRound l) 3 P (roundP B m D I Ix (pre ++ [x]) W) a' W) :
    Calls P gf (#[.func (.yield l) #[] #[]] ++ lb) W1 (fun e W2 => (∃ v, e = .returned v) ∧ ∃ jump W3, (Instr.endLoop l).run P W2 = .ok jump W3 ∧
      ((jump = none ∧ ∃ m xs, S xs ∧ I m xs W3) ∨ (∃ c m pre, jump = some c ∧ Part S pre ∧ Ix c m pre W3))) := by
  have hlt1 : l < W1.heap.size := (Array.getElem?_eq_some_iff.1 hl).1
  obtain ⟨rec, hrec⟩ : ∃ rec : LoopState → Option Code → Loop, rec = fun st pe => { state := st, pending := pe, fn, tmps := tm, params := ps, assign, body, defers := d } := ⟨_, rfl⟩
  have hl1 : W1.heap[l]? = some (.loop (rec .ready none)) := by rw [hrec]; exact hl
  refine (hseq l (fun m pre W => I m pre W ∧ W.heap[l]? = some (.loop (rec .ready none)))
    (fun m pre W => ∃ c, Ix c m pre W ∧ W.heap[l]? = some (.loop (rec .done (some c)))) W1 hb
    (fun m s X Y hs ht => ⟨hI m s X Y hs.1 (ht.mono (by omega)), ht.same l _ hs.2 (.inl hlt1)⟩)
    (fun m s X Y hs ht => by obtain ⟨c, hc, hx⟩ := hs; exact ⟨c, hIx c m s X Y hc (ht.mono (by omega)), ht.same l _ hx (.inl hlt1)⟩)
    ?_ (fun m => ⟨h0 m, hl1⟩)).mono ?_
  · rintro m pre x W hm ⟨hi, hlw⟩ hpart
    have hy := run_yield (P := P) (args := encs x) hlw (by rw [hrec]; exact hps x)
    rw [hrec] at hy
    refine ⟨fn, _, assign, body, hy, roundIn_of_wpIn trivial (hassign m pre x W _ hm hi ?_)⟩
    intro a' Wa hst hbe hia hax
    have hla := hst.record hBl hlw
    have hlta : l < Wa.heap.size := (Array.getElem?_eq_some_iff.1 hla).1
    obtain ⟨Wb, hWb⟩ : ∃ Wb, Wa.putObj l (.loop { rec .ready none with state := .busy }) = Wb := ⟨_, rfl⟩
    refine ⟨Wb, by rw [← hWb]; exact run_beginRound hla (by rw [hrec]), ?_⟩
    have hlb : Wb.heap[l]? = some (.loop { rec .ready none with state := .busy }) := by rw [← hWb]; exact World.putObj_heap_same hlta
    have hib : I m pre Wb := by rw [← hWb]; exact (hI m).putObj _ hia hBl hla rfl
    have haxb : Ax x a' Wb := by rw [← hWb]; exact (hAx x a').putObj (s := ()) _ hax hBl hla rfl
    have hsb : Stays W1.heap.size m W Wb := by rw [← hWb]; exact (hst.mono (by omega)).trans (.turn hlt1)
    have hDl : ¬ D l := fun h => Nat.lt_irrefl _ (hn l h)
    have hbb : Keeps D W Wb := by rw [← hWb]; exact hbe.putObj hDl _
    refine wpIn_mono (hbody m pre x a' Wb hm ⟨_, hlb⟩ hib haxb hpart) ?_
    have fin : ∀ (jump : Option Code) (W3 : World), Stays B m Wb W3 → ∃ W4, W4 = W3.putObj l (.loop (rec (if jump.isNone then .ready else .done) jump)) ∧
        (Instr.endRound l jump).run P W3 = .ok (.bool jump.isNone) W4 ∧ W4.heap[l]? = some (.loop (rec (if jump.isNone then .ready else .done) jump)) ∧
        W3.heap[l]? = some (.loop { rec .ready none with state := .busy }) ∧ Stays W1.heap.size m W W4 := fun jump W3 hs3 => by
      have hl3 := hs3.record hBl hlb
      have hr := run_endRound (P := P) jump hl3
      rw [hrec] at hr ⊢
      refine ⟨_, rfl, hr, World.putObj_heap_same (Array.getElem?_eq_some_iff.1 hl3).1, by rw [hrec] at hl3; exact hl3, ?_⟩
      exact (hsb.trans (hs3.mono (by omega))).trans (.turn hlt1)
    rintro e a3 W3 hp
    cases e with
    | normal =>
      obtain ⟨hs3, hb3, hi3⟩ := hp
      obtain ⟨W4, e4, hr, hl4, hl3, hs4⟩ := fin none W3 hs3
      refine ⟨_, W4, hr, hs4, .inl ⟨rfl, ⟨?_, hl4⟩, ?_⟩⟩
      · rw [e4]; exact (hI m).putObj _ hi3 hBl hl3 rfl
      · rw [e4]; exact (hbb.trans hb3).putObj hDl _
    | ret =>
      obtain ⟨hs3, hi3⟩ := hp
      obtain ⟨W4, e4, hr, hl4, hl3, hs4⟩ := fin (some .ret) W3 hs3
      exact ⟨_, W4, hr, hs4, .inr ⟨rfl, .ret, by rw [e4]; exact (hIx _ m).putObj _ hi3 hBl hl3 rfl, hl4⟩⟩
    | exit id =>
      obtain ⟨hs3, hi3⟩ := hp
      obtain ⟨W4, e4, hr, hl4, hl3, hs4⟩ := fin (some (.exit id)) W3 hs3
      exact ⟨_, W4, hr, hs4, .inr ⟨rfl, .exit id, by rw [e4]; exact (hIx _ m).putObj _ hi3 hBl hl3 rfl, hl4⟩⟩
    | goto t =>
      obtain ⟨hs3, hi3⟩ := hp
      obtain ⟨W4, e4, hr, hl4, hl3, hs4⟩ := fin (some (.goto t)) W3 hs3
      exact ⟨_, W4, hr, hs4, .inr ⟨rfl, .goto t, by rw [e4]; exact (hIx _ m).putObj _ hi3 hBl hl3 rfl, hl4⟩⟩
    | panic ch => exact hp.elim
    | outgrown => exact hp.elim
  · rintro e W2 ⟨hv, (⟨m, xs, hS, hi, hlw⟩ | ⟨m, pre, hp, c, hi, hlw⟩)⟩
    · have hr := run_endLoop (P := P) hlw (by rw [hrec]; simp)
      refine ⟨hv, _, _, hr, .inl ⟨by rw [hrec], m, xs, hS, (hI m).putObj _ hi hBl hlw rfl⟩⟩
    · have hr := run_endLoop (P := P) hlw (by rw [hrec]; simp)
      refine ⟨hv, _, _, hr, .inr ⟨c, m, pre, by rw [hrec], hp, (hIx c m).putObj _ hi hBl hlw rfl⟩⟩

/-- THE STATEMENT, OUTERMOST. D is the block of the rounds' deferred calls: at the function's return it is taken once more. -/
theorem range_out {gf : Nat} {D : Nat → Prop} {g : Operand} {ps : Array Tmp} {assign body : Code} {Q : Exit → Act → World → Prop} {a : Act} {w w0 : World} {lb : Array Value} {encs : α → Array Value} {S : List α → Prop}
    (hg : a.eval g = .func (.func gf) #[] lb) (eg : ∀ args w, (callFunc gf args).run P w = .ok (.enter gf args) w)
    (hseq : Gives P gf lb encs D S w0) (hb : Below w0.heap.size w0 w) (hn : ∀ k, D k → k < w.heap.size) (hps : ∀ x, (encs x).size = ps.size)
    (I : Nat → List α → World → Prop) (Ix : Code → Nat → List α → World → Prop) (hI : ∀ m, Abides w.heap.size m (I m)) (hIx : ∀ c m, Abides w.heap.size m (Ix c m)) (h0 : ∀ m, I m [] w)
    (Ax : α → Act → World → Prop) (hAx : ∀ x a', OwnFrom w.heap.size (fun (_ : Unit) W => Ax x a' W))
    (hassign : ∀ (l m : Nat) pre x W (K : Act → World → Prop), w.heap.size ≤ m → I m pre W → (∀ a' W', Stays w.heap.size m W W' → Keeps D W W' → I m pre W' → Ax x a' W' → K a' W') →
      assign.wpIn (Fence.wide.inRound l) 3 P (Exit.then K (fun _ _ _ => False)) { tmps := (ps.zip (encs x)).foldl (fun t (p, v) => t.setIfInBounds p v) a.tmps, defers := [] } W)
    (hbody : ∀ (l m : Nat) pre x a' W, w.heap.size ≤ m → w.heap.size ≤ l → (∃ r, W.heap[l]? = some (.loop r)) → I m pre W → Ax x a' W → Part S (pre ++ [x]) →
      body.wpIn (Fence.wide.inRound l) 3 P (roundP w.heap.size m D I Ix (pre ++ [x]) W) a' W)
    (hdone : ∀ (E m : Nat) xs W, w.heap.size ≤ E → S xs → I m xs W → W.heap[E]? = some (.deferred (some [])) → Q .normal { a with defers := { target := .collected E, args := #[] } :: a.defers } W)
    (hstop : ∀ (E : Nat) (c : Code) (m : Nat) pre W, w.heap.size ≤ E → Part S pre → Ix c m pre W → W.heap[E]? = some (.deferred (some [])) →
      c.wpIn Fence.wide 3 P Q { a with defers := { target := .collected E, args := #[] } :: a.defers } W) :
    (Code.rangeFunc g ps assign body).wpIn Fence.wide 3 P Q a w := by
  refine wpIn_rangeFunc ?_
  intro fn hfn
  obtain ⟨W1, hW1⟩ : ∃ W1, (w.alloc (.deferred (some []))).alloc (.loop { state := .ready, pending := none, fn, tmps := a.tmps, params := ps, assign, body, defers := w.heap.size }) = W1 := ⟨_, rfl⟩
  have hL1 : W1.heap[w.heap.size + 1]? = some (.loop { state := .ready, pending := none, fn, tmps := a.tmps, params := ps, assign, body, defers := w.heap.size }) := by
    rw [← hW1]; have := World.alloc_heap_new (w.alloc (.deferred (some []))) (.loop { state := .ready, pending := none, fn, tmps := a.tmps, params := ps, assign, body, defers := w.heap.size }); rwa [World.size_alloc] at this
  have hK1 : W1.heap[w.heap.size]? = some (.deferred (some [])) := by
    rw [← hW1]; exact (Below.heap_alloc _ _ _ (by simp)).trans (World.alloc_heap_new w _)
  have hbw : Below w.heap.size w W1 := by rw [← hW1]; exact ((Below.refl _ w).alloc (Nat.le_refl _) _).alloc (by simp) _
  refine ⟨w.heap.size + 1, [{ target := .collected w.heap.size, args := #[] }], W1, { target := .fn (.func gf) lb, args := #[.func (.yield (w.heap.size + 1)) #[] #[]] }, W1, gf,
    #[.func (.yield (w.heap.size + 1)) #[] #[]] ++ lb, W1, ?_, ?_, fun _ _ => trivial, ?_, fun h => (by simp [Fence.wide] at h), ?_⟩
  · rw [← hW1]; exact run_enterLoop_outer _ _ _ _ _
  · simp only [resolve, hg]
    simp [go_sem]
  · simp [invoke, go_sem, eg]
  · refine callsIn_wide.2 ((core (B := w.heap.size + 1) hseq (hb.trans (hbw.mono hb.size)) hL1 (Nat.le_refl _) (fun k hk => Nat.lt_succ_of_lt (hn k hk)) hps
      (fun m pre W => I m pre W ∧ W.heap[w.heap.size]? = some (.deferred (some []))) (fun c m pre W => Ix c m pre W ∧ W.heap[w.heap.size]? = some (.deferred (some [])))
      (fun m s X Y hs ht => ⟨hI m s X Y hs.1 (ht.mono (by omega)), ht.same _ _ hs.2 (.inl (by omega))⟩)
      (fun c m s X Y hs ht => ⟨hIx c m s X Y hs.1 (ht.mono (by omega)), ht.same _ _ hs.2 (.inl (by omega))⟩)
      (fun m => ⟨hI m _ _ _ (h0 m) (.of_below hbw), hK1⟩) Ax (fun x a' s X Y row hs hg' hr => hAx x a' s X Y row hs hg' (fun r e => ⟨by have := (hr r e).1; omega, (hr r e).2⟩))
      (fun m pre x W K hm hi hK => hassign _ m pre x W K (Nat.le_trans hbw.size hm) hi.1 (fun a' W' hs hbe hi' hax => hK a' W' (hs.mono (by omega)) hbe ⟨hi', hs.same _ _ (Nat.le_refl _) hi.2 (.inr rfl)⟩ hax))
      (fun m pre x a' W hm hr hi hax hp => wpIn_mono (hbody _ m pre x a' W (Nat.le_trans hbw.size hm) (by omega) hr hi.1 hax hp) ?_)).mono ?_)
    · intro e a3 W3 h3
      have hD : ∀ {W' : World}, Stays w.heap.size m W W' → W'.heap[w.heap.size]? = some (.deferred (some [])) := fun hs => hs.same _ _ (Nat.le_refl _) hi.2 (.inr rfl)
      cases e with
      | normal => exact ⟨h3.1.mono (by omega), h3.2.1, h3.2.2, hD h3.1⟩
      | ret => exact ⟨h3.1.mono (by omega), h3.2, hD h3.1⟩
      | exit id => exact ⟨h3.1.mono (by omega), h3.2, hD h3.1⟩
      | goto t => exact ⟨h3.1.mono (by omega), h3.2, hD h3.1⟩
      | panic ch => exact h3
      | outgrown => exact h3
    · rintro e W2 ⟨⟨v, rfl⟩, jump, W3, hr, (⟨rfl, m, xs, hS, hi, hD⟩ | ⟨c, m, pre, rfl, hp, hi, hD⟩)⟩
      · exact ⟨none, W3, hr, hdone _ m xs W3 (Nat.le_refl _) hS hi hD⟩
      · exact ⟨some c, W3, hr, hstop _ c m pre W3 (Nat.le_refl _) hp hi hD⟩

/-- THE STATEMENT, OUTERMOST, WHERE A ROUND LEAVES BY 'break' AT MOST. -/
theorem range_break {id gf : Nat} {D : Nat → Prop} {g : Operand} {ps : Array Tmp} {assign body : Code} {Q : Exit → Act → World → Prop} {a : Act} {w w0 : World} {lb : Array Value} {encs : α → Array Value} {S : List α → Prop}
    (hg : a.eval g = .func (.func gf) #[] lb) (eg : ∀ args w, (callFunc gf args).run P w = .ok (.enter gf args) w)
    (hseq : Gives P gf lb encs D S w0) (hb : Below w0.heap.size w0 w) (hn : ∀ k, D k → k < w.heap.size) (hps : ∀ x, (encs x).size = ps.size)
    (I Ix : Nat → List α → World → Prop) (A : World → Prop) (hI : ∀ m, Abides w.heap.size m (I m)) (hIx : ∀ m, Abides w.heap.size m (Ix m)) (h0 : ∀ m, I m [] w)
    (Ax : α → Act → World → Prop) (hAx : ∀ x a', OwnFrom w.heap.size (fun (_ : Unit) W => Ax x a' W))
    (hIA : ∀ m xs W, S xs → I m xs W → A W) (hIxA : ∀ m pre W, Part S pre → Ix m pre W → A W)
    (hassign : ∀ (l m : Nat) pre x W (K : Act → World → Prop), w.heap.size ≤ m → I m pre W → (∀ a' W', Stays w.heap.size m W W' → Keeps D W W' → I m pre W' → Ax x a' W' → K a' W') →
      assign.wpIn (Fence.wide.inRound l) 3 P (Exit.then K (fun _ _ _ => False)) { tmps := (ps.zip (encs x)).foldl (fun t (p, v) => t.setIfInBounds p v) a.tmps, defers := [] } W)
    (hbody : ∀ (l m : Nat) pre x a' W, w.heap.size ≤ m → w.heap.size ≤ l → (∃ r, W.heap[l]? = some (.loop r)) → I m pre W → Ax x a' W → Part S (pre ++ [x]) →
      body.wpIn (Fence.wide.inRound l) 3 P (roundP w.heap.size m D I (fun c m pre W => c = .exit id ∧ Ix m pre W) (pre ++ [x]) W) a' W)
    (hafter : ∀ (E : Nat) W, w.heap.size ≤ E → A W → W.heap[E]? = some (.deferred (some [])) → Q .normal { a with defers := { target := .collected E, args := #[] } :: a.defers } W) :
    (Code.rangeFunc g ps assign body).wpIn Fence.wide 3 P (Exit.inBlock id Q) a w :=
  range_out hg eg hseq hb hn hps I (fun c m pre W => c = .exit id ∧ Ix m pre W) hI (fun c m => (Abides.pure (fun _ => c = .exit id)).and (hIx m)) h0 Ax hAx hassign hbody
    (fun E m xs W hE hS hi hK => hafter E W hE (hIA m xs W hS hi) hK)
    (fun E c m pre W hE hp hi hK => by
      obtain ⟨rfl, hi⟩ := hi
      refine wpIn_exit ?_
      have := hafter E W hE (hIxA m pre W hp hi) hK
      simpa [Exit.inBlock] using this)

/-- THE STATEMENT IN A ROUND OF LOOP l₀. -/
theorem range_in {l₀ gf : Nat} {D : Nat → Prop} {r₀ : Loop} {g : Operand} {ps : Array Tmp} {assign body : Code} {Q : Exit → Act → World → Prop} {a : Act} {w w0 : World} {lb : Array Value} {encs : α → Array Value} {S : List α → Prop}
    (hl₀ : w.heap[l₀]? = some (.loop r₀)) (hg : a.eval g = .func (.func gf) #[] lb) (eg : ∀ args w, (callFunc gf args).run P w = .ok (.enter gf args) w)
    (hseq : Gives P gf lb encs D S w0) (hb : Below w0.heap.size w0 w) (hn : ∀ k, D k → k < w.heap.size) (hps : ∀ x, (encs x).size = ps.size)
    (I : Nat → List α → World → Prop) (Ix : Code → Nat → List α → World → Prop) (hI : ∀ m, Abides w.heap.size m (I m)) (hIx : ∀ c m, Abides w.heap.size m (Ix c m)) (h0 : ∀ m, I m [] w)
    (Ax : α → Act → World → Prop) (hAx : ∀ x a', OwnFrom w.heap.size (fun (_ : Unit) W => Ax x a' W))
    (hassign : ∀ (l m : Nat) pre x W (K : Act → World → Prop), w.heap.size ≤ m → I m pre W → (∀ a' W', Stays w.heap.size m W W' → Keeps D W W' → I m pre W' → Ax x a' W' → K a' W') →
      assign.wpIn (Fence.wide.inRound l) 3 P (Exit.then K (fun _ _ _ => False)) { tmps := (ps.zip (encs x)).foldl (fun t (p, v) => t.setIfInBounds p v) a.tmps, defers := [] } W)
    (hbody : ∀ (l m : Nat) pre x a' W, w.heap.size ≤ m → w.heap.size ≤ l → (∃ r, W.heap[l]? = some (.loop r)) → I m pre W → Ax x a' W → Part S (pre ++ [x]) →
      body.wpIn (Fence.wide.inRound l) 3 P (roundP w.heap.size m D I Ix (pre ++ [x]) W) a' W)
    (hdone : ∀ (m : Nat) xs W, S xs → I m xs W → Q .normal a W)
    (hstop : ∀ (c : Code) (m : Nat) pre W, Part S pre → Ix c m pre W → c.wpIn (Fence.wide.inRound l₀) 3 P Q a W) :
    (Code.rangeFunc g ps assign body).wpIn (Fence.wide.inRound l₀) 3 P Q a w := by
  refine wpIn_rangeFunc ?_
  intro fn hfn
  obtain ⟨W1, hW1⟩ : ∃ W1, w.alloc (.loop { state := .ready, pending := none, fn, tmps := a.tmps, params := ps, assign, body, defers := r₀.defers }) = W1 := ⟨_, rfl⟩
  have hL1 : W1.heap[w.heap.size]? = some (.loop { state := .ready, pending := none, fn, tmps := a.tmps, params := ps, assign, body, defers := r₀.defers }) := by
    rw [← hW1]; exact World.alloc_heap_new w _
  have hbw : Below w.heap.size w W1 := by rw [← hW1]; exact (Below.refl _ w).alloc (Nat.le_refl _) _
  refine ⟨w.heap.size, [], W1, { target := .fn (.func gf) lb, args := #[.func (.yield w.heap.size) #[] #[]] }, W1, gf,
    #[.func (.yield w.heap.size) #[] #[]] ++ lb, W1, ?_, ?_, fun _ _ => trivial, ?_, fun h => (by simp [Fence.wide] at h), ?_⟩
  · rw [← hW1]; exact run_enterLoop_inner hl₀ _ _ _ _ _
  · simp only [resolve, hg]
    simp [go_sem]
  · simp [invoke, go_sem, eg]
  · refine CallsIn.inRound l₀ (callsIn_wide.2 ((core (B := w.heap.size) hseq (hb.trans (hbw.mono hb.size)) hL1 (Nat.le_refl _) hn hps I Ix hI hIx
      (fun m => hI m _ _ _ (h0 m) (.of_below hbw)) Ax hAx (fun m pre x W K hm hi hK => hassign _ m pre x W K (Nat.le_trans hbw.size hm) hi hK)
      (fun m pre x a' W hm hr hi hax hp => hbody _ m pre x a' W (Nat.le_trans hbw.size hm) (Nat.le_refl _) hr hi hax hp)).mono ?_))
    rintro e W2 ⟨⟨v, rfl⟩, jump, W3, hr, (⟨rfl, m, xs, hS, hi⟩ | ⟨c, m, pre, rfl, hp, hi⟩)⟩
    · exact ⟨none, W3, hr, hdone m xs W3 hS hi⟩
    · exact ⟨some c, W3, hr, hstop c m pre W3 hp hi⟩
end core

/-- Nothing panics. -/
def calmP (Q : Exit → Act → World → Prop) : Exit → Act → World → Prop
  | .panic _, _, _ => False
  | .outgrown, _, _ => False
  | .normal, a, w => Q .normal a w
  | .ret, a, w => Q .ret a w
  | .exit id, a, w => Q (.exit id) a w
  | .goto l, a, w => Q (.goto l) a w

/-- A function whose body ranges over functions, from its body's walk. -/
theorem calls_marks {P : Program} {f : FuncId} {fn : Func} {c : Code} {args : Array Value} {w : World} {R : Ending → World → Prop}
    (hf : P.funcs[f]? = some fn) (hb : fn.body = some c)
    (h : c.wp P (calmP (bodyPostM Fence.wide 3 P fn R)) { tmps := args ++ Array.replicate (fn.ntmps - args.size) undef, defers := [] } w) : Calls P f args w R :=
  (callsIn_wide (n := 3)).1 (callsIn_of_wp_marks hf hb trivial (wpIn_mono (wpIn_wide.2 h) fun e a w hq => by cases e <;> first | exact hq | exact hq.elim) rfl)

theorem round_any {n n' : Nat} {P : Program} {l : Nat} {f : FuncId} {tmps : Array Value} {assign body : Code} {w : World} {R : Ending → World → Prop}
    (h : RoundIn Fence.wide n P l f tmps assign body w R) : RoundIn Fence.wide n' P l f tmps assign body w R := ⟨trivial, fun c cs _ => h.2 c cs (room_wide _)⟩
theorem round_in {n n' l' : Nat} {P : Program} {l : Nat} {f : FuncId} {tmps : Array Value} {assign body : Code} {w : World} {R : Ending → World → Prop}
    (h : RoundIn Fence.wide n P l f tmps assign body w R) : RoundIn (Fence.wide.inRound l') n' P l f tmps assign body w R := ⟨trivial, fun c cs _ => h.2 c cs (room_wide _)⟩

end Go.Proofs.Ytajfffoaebjnlaa
