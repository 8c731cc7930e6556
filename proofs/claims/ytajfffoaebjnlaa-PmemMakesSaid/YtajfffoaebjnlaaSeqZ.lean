/- Ranges over functions, once more: what an iterator lays is a set of blocks, which may grow from round to round (a variable of a round that it reads behind the yield, too). -/
import Derived.Test.YtajfffoaebjnlaaSeq
namespace Go.Proofs.Ytajfffoaebjnlaa
set_option linter.unusedVariables false
set_option linter.unusedSimpArgs false
open Go.RowKit Go.Shelf

/-- What a round keeps for the iterator: of the blocks from B on those that the iterator laid, and all that hold no cells. -/
structure StaysZ (B : Nat) (m : Nat → Prop) (W W' : World) : Prop where
  size : W.heap.size ≤ W'.heap.size
  same : ∀ (k : Nat) (o : Obj), B ≤ k → W.heap[k]? = some o → (m k ∨ o.isCells = false) → W'.heap[k]? = some o
/-- What an iterator's own steps may turn: no more than that. -/
structure TurnsZ (B : Nat) (m : Nat → Prop) (W W' : World) : Prop where
  os : W'.os = W.os
  tape : W'.tape = W.tape
  output : W'.output = W.output
  size : W.heap.size ≤ W'.heap.size
  same : ∀ (k : Nat) (o : Obj), W.heap[k]? = some o → (k < B ∨ (¬ m k ∧ o.isCells = true)) → W'.heap[k]? = some o
/-- What the iterator does leaves it; what it lays since may be its own. -/
def AbidesZ {β : Type} (B : Nat) (J : (Nat → Prop) → β → World → Prop) : Prop := ∀ m m' s W W', J m s W → TurnsZ B m W W' → (∀ k, m' k → m k ∨ W.heap.size ≤ k) → J m' s W'
section small
variable {B B' n : Nat} {m : Nat → Prop} {W W' X Y : World}
theorem StaysZ.refl (B : Nat) (m : Nat → Prop) (W : World) : StaysZ B m W W := ⟨Nat.le_refl _, fun _ _ _ h _ => h⟩
theorem StaysZ.trans (h : StaysZ B m X W) (k : StaysZ B m W Y) : StaysZ B m X Y := ⟨Nat.le_trans h.size k.size, fun i o hb ho hc => k.same i o hb (h.same i o hb ho hc) hc⟩
theorem StaysZ.mono (h : StaysZ B m X W) (hb : B ≤ B') : StaysZ B' m X W := ⟨h.size, fun k o hk => h.same k o (Nat.le_trans hb hk)⟩
theorem StaysZ.of_below (h : Below W.heap.size W W') : StaysZ B m W W' :=
  ⟨h.size, fun k _ _ hk _ => (h.block k (Array.getElem?_eq_some_iff.1 hk).1).trans hk⟩
theorem StaysZ.record {l : Nat} {r : Loop} (h : StaysZ B m X W) (hb : B ≤ l) (hl : X.heap[l]? = some (.loop r)) : W.heap[l]? = some (.loop r) := h.same l _ hb hl (.inr rfl)
theorem StaysZ.turn {l : Nat} {o : Obj} (hb : l < B) : StaysZ B m W (W.putObj l o) :=
  ⟨by simp, fun k _ hk hx _ => (World.putObj_heap_other (by omega)).trans hx⟩
/-- A write into a block that lies ahead of B. -/
theorem StaysZ.of_grown {b : Nat} {W W' : World} (h : W.grownBy W' (some b)) (hb : b < B) : StaysZ B m W W' :=
  ⟨h.size, fun k o hk ho _ => (h.block k (Array.getElem?_eq_some_iff.1 ho).1 (by simp; omega)).trans ho⟩
theorem StaysZ.row {g e : Nat} {xs : List Value} (h : StaysZ B m W W') (hr : RowL W g e xs) (hb : B ≤ g) (hm : m g) : RowL W' g e xs := h.same g _ hb hr (.inl hm)
theorem TurnsZ.refl (B : Nat) (m : Nat → Prop) (W : World) : TurnsZ B m W W := ⟨rfl, rfl, rfl, Nat.le_refl _, fun _ _ h _ => h⟩
theorem TurnsZ.trans (h : TurnsZ B m X W) (k : TurnsZ B m W Y) : TurnsZ B m X Y :=
  ⟨k.os.trans h.os, k.tape.trans h.tape, k.output.trans h.output, Nat.le_trans h.size k.size, fun i o ho hc => k.same i o (h.same i o ho hc) hc⟩
theorem TurnsZ.mono (h : TurnsZ B' m X W) (hb : B ≤ B') : TurnsZ B m X W := ⟨h.os, h.tape, h.output, h.size, fun k o hk hc => h.same k o hk (hc.imp (fun h => by omega) id)⟩
theorem TurnsZ.of_below (h : Below W.heap.size W W') : TurnsZ B m W W' :=
  ⟨h.os, h.tape, h.output, h.size, fun k _ hk _ => (h.block k (Array.getElem?_eq_some_iff.1 hk).1).trans hk⟩
theorem TurnsZ.putObj (h : TurnsZ B m X W) {l : Nat} {o : Obj} (o' : Obj) (hb : B ≤ l) (hl : W.heap[l]? = some o) (ho : o.isCells = false) : TurnsZ B m X (W.putObj l o') :=
  h.trans ⟨rfl, rfl, rfl, by simp, fun k x hk hc => by
    refine (World.putObj_heap_other (fun e => ?_)).trans hk
    subst e; rw [hl] at hk; cases hk; rcases hc with hc | ⟨_, hc⟩
    · omega
    · rw [ho] at hc; cases hc⟩
theorem TurnsZ.row {g e : Nat} {xs : List Value} (h : TurnsZ B m W W') (hr : RowL W g e xs) (hb : g < B ∨ ¬ m g) : RowL W' g e xs := h.same g _ hr (hb.imp_right fun h => ⟨h, rfl⟩)
theorem TurnsZ.below (h : TurnsZ B m W W') (hn : n ≤ B) (hs : n ≤ W.heap.size) : Below n W W' := ⟨h.os, h.tape, h.output, h.size, fun k hk => by
  have hlt : k < W.heap.size := by omega
  have ho := Array.getElem?_eq_getElem hlt
  exact (h.same k _ ho (.inl (by omega))).trans ho.symm⟩
theorem AbidesZ.putObj {β : Type} {I : (Nat → Prop) → β → World → Prop} (h : AbidesZ B I) {s : β} {l : Nat} {o : Obj} (o' : Obj) (hs : I m s W) (hb : B ≤ l) (hl : W.heap[l]? = some o) (ho : o.isCells = false) : I m s (W.putObj l o') :=
  h m m s W _ hs ((TurnsZ.refl _ _ _).putObj o' hb hl ho) (fun _ hk => .inl hk)
end small
/-- HOW THE BODY OF A ROUND MAY BE LEFT. -/
def roundPZ {α : Type} (B : Nat) (m : Nat → Prop) (D : Nat → Prop) (I : (Nat → Prop) → List α → World → Prop) (Ix : Code → (Nat → Prop) → List α → World → Prop) (xs : List α) (W : World) : Exit → Act → World → Prop
  | .normal, _, W' => StaysZ B m W W' ∧ Keeps D W W' ∧ I m xs W'
  | .ret, _, W' => StaysZ B m W W' ∧ Ix .ret m xs W'
  | .exit id, _, W' => StaysZ B m W W' ∧ Ix (.exit id) m xs W'
  | .goto t, _, W' => StaysZ B m W W' ∧ Ix (.goto t) m xs W'
  | .panic _, _, _ => False
  | .outgrown, _, _ => False

/-- WHAT AN ITERATOR'S VALUE GIVES: one of the lists of S, or a beginning of one, where a round has said 'no more'. -/
def GivesZ {α : Type} (P : Program) (g : Nat) (lb : Array Value) (encs : α → Array Value) (D : Nat → Prop) (S : List α → Prop) (w : World) : Prop :=
  ∀ (l : Nat) (J Jx : (Nat → Prop) → List α → World → Prop) (W : World), Below w.heap.size w W → (AbidesZ W.heap.size J) → (AbidesZ W.heap.size Jx) →
    (∀ m pre x W1, (∀ k, m k → W.heap.size ≤ k ∧ k < W1.heap.size) → J m pre W1 → Part S (pre ++ [x]) → YieldAt Fence.wide 3 P l (encs x) W1 fun e W' =>
      StaysZ W.heap.size m W1 W' ∧ ((e = .returned (.bool true) ∧ J m (pre ++ [x]) W' ∧ Keeps D W1 W') ∨ (e = .returned (.bool false) ∧ Jx m (pre ++ [x]) W'))) →
    (J (fun _ => False) [] W) →
    Calls P g (#[.func (.yield l) #[] #[]] ++ lb) W fun e W' => (∃ v, e = .returned v) ∧ ((∃ m xs, S xs ∧ J m xs W') ∨ (∃ m pre, Part S pre ∧ Jx m pre W'))

theorem GivesZ.later {α : Type} {P : Program} {g : Nat} {lb : Array Value} {encs : α → Array Value} {D : Nat → Prop} {S : List α → Prop} {w w' : World}
    (h : GivesZ P g lb encs D S w) (hb : Below w.heap.size w w') : GivesZ P g lb encs D S w' :=
  fun l J Jx W hW hJ hJx hY h0 => h l J Jx W (hb.trans (hW.mono hb.size)) hJ hJx hY h0

section core
variable {α : Type} {P : Program}

theorem coreZ {l B d gf : Nat} {D : Nat → Prop} {fn : FuncId} {tm : Array Value} {ps : Array Tmp} {assign body : Code} {lb : Array Value} {encs : α → Array Value} {S : List α → Prop} {w0 W1 : World}
    (hseq : GivesZ P gf lb encs D S w0) (hb : Below w0.heap.size w0 W1)
    (hl : W1.heap[l]? = some (.loop { state := .ready, pending := none, fn, tmps := tm, params := ps, assign, body, defers := d }))
    (hBl : B ≤ l) (hn : ∀ k, D k → k < l) (hps : ∀ x, (encs x).size = ps.size)
    (I : (Nat → Prop) → List α → World → Prop) (Ix : Code → (Nat → Prop) → List α → World → Prop) (hI : AbidesZ B I) (hIx : ∀ c, AbidesZ B (Ix c)) (h0 : I (fun _ => False) [] W1)
    (Ax : α → Act → World → Prop) (hAx : ∀ x a', OwnFrom B (fun (_ : Unit) W => Ax x a' W))
    (hassign : ∀ m pre x W (K : Act → World → Prop), (∀ k, m k → W1.heap.size ≤ k ∧ k < W.heap.size) → I m pre W → (∀ a' W', StaysZ B m W W' → Keeps D W W' → I m pre W' → Ax x a' W' → K a' W') →
      assign.wpIn (Fence.wide.inRound l) 3 P (Exit.then K (fun _ _ _ => False)) { tmps := (ps.zip (encs x)).foldl (fun t (p, v) => t.setIfInBounds p v) tm, defers := [] } W)
    (hbody : ∀ m pre x a' W, (∀ k, m k → W1.heap.size ≤ k ∧ k < W.heap.size) → (∃ r, W.heap[l]? = some (.loop r)) → I m pre W → Ax x a' W → Part S (pre ++ [x]) →
      body.wpIn (Fence.wide.inRound l) 3 P (roundPZ B m D I Ix (pre ++ [x]) W) a' W) :
    Calls P gf (#[.func (.yield l) #[] #[]] ++ lb) W1 (fun e W2 => (∃ v, e = .returned v) ∧ ∃ jump W3, (Instr.endLoop l).run P W2 = .ok jump W3 ∧
      ((jump = none ∧ ∃ m xs, S xs ∧ I m xs W3) ∨ (∃ c m pre, jump = some c ∧ Part S pre ∧ Ix c m pre W3))) := by
  have hlt1 : l < W1.heap.size := (Array.getElem?_eq_some_iff.1 hl).1
  obtain ⟨rec, hrec⟩ : ∃ rec : LoopState → Option Code → Loop, rec = fun st pe => { state := st, pending := pe, fn, tmps := tm, params := ps, assign, body, defers := d } := ⟨_, rfl⟩
  have hl1 : W1.heap[l]? = some (.loop (rec .ready none)) := by rw [hrec]; exact hl
  refine (hseq l (fun m pre W => I m pre W ∧ W.heap[l]? = some (.loop (rec .ready none)))
    (fun m pre W => ∃ c, Ix c m pre W ∧ W.heap[l]? = some (.loop (rec .done (some c)))) W1 hb
    (fun m m' s X Y hs ht hg => ⟨hI m m' s X Y hs.1 (ht.mono (by omega)) hg, ht.same l _ hs.2 (.inl hlt1)⟩)
    (fun m m' s X Y hs ht hg => by obtain ⟨c, hc, hx⟩ := hs; exact ⟨c, hIx c m m' s X Y hc (ht.mono (by omega)) hg, ht.same l _ hx (.inl hlt1)⟩)
    ?_ ⟨h0, hl1⟩).mono ?_
  · rintro m pre x W hm ⟨hi, hlw⟩ hpart
    have hy := run_yield (P := P) (args := encs x) hlw (by rw [hrec]; exact hps x)
    rw [hrec] at hy
    refine ⟨fn, _, assign, body, hy, roundIn_of_wpIn trivial (hassign m pre x W _ hm hi ?_)⟩
    intro a' Wa hst hbe hia hax
    have hla := hst.record hBl hlw
    have hlta : l < Wa.heap.size := (Array.getElem?_eq_some_iff.1 hla).1
    obtain ⟨Wb, hWb⟩ : ∃ Wb, Wa.putObj l (.loop { rec .ready none with state := .busy }) = Wb := ⟨_, rfl⟩
    refine ⟨Wb, by rw [← hWb]; exact run_beginRound hla (by rw [hrec]), ?_⟩
    have hlb : Wb.heap[l]? = some (.loop { rec .ready none with state := .busy }) := by rw [← hWb]; exact World.putObj_heap_same hlta
    have hib : I m pre Wb := by rw [← hWb]; exact hI.putObj _ hia hBl hla rfl
    have haxb : Ax x a' Wb := by rw [← hWb]; exact (hAx x a').putObj (s := ()) _ hax hBl hla rfl
    have hsb : StaysZ W1.heap.size m W Wb := by rw [← hWb]; exact (hst.mono (by omega)).trans (.turn hlt1)
    have hDl : ¬ D l := fun h => Nat.lt_irrefl _ (hn l h)
    have hbb : Keeps D W Wb := by rw [← hWb]; exact hbe.putObj hDl _
    refine wpIn_mono (hbody m pre x a' Wb (fun k hk => ⟨(hm k hk).1, Nat.lt_of_lt_of_le (hm k hk).2 hsb.size⟩) ⟨_, hlb⟩ hib haxb hpart) ?_
    have fin : ∀ (jump : Option Code) (W3 : World), StaysZ B m Wb W3 → ∃ W4, W4 = W3.putObj l (.loop (rec (if jump.isNone then .ready else .done) jump)) ∧
        (Instr.endRound l jump).run P W3 = .ok (.bool jump.isNone) W4 ∧ W4.heap[l]? = some (.loop (rec (if jump.isNone then .ready else .done) jump)) ∧
        W3.heap[l]? = some (.loop { rec .ready none with state := .busy }) ∧ StaysZ W1.heap.size m W W4 := fun jump W3 hs3 => by
      have hl3 := hs3.record hBl hlb
      have hr := run_endRound (P := P) jump hl3
      rw [hrec] at hr ⊢
      refine ⟨_, rfl, hr, World.putObj_heap_same (Array.getElem?_eq_some_iff.1 hl3).1, by rw [hrec] at hl3; exact hl3, ?_⟩
      exact (hsb.trans (hs3.mono (by omega))).trans (.turn hlt1)
    rintro e a3 W3 hp
    cases e with
    | normal =>
      obtain ⟨hs3, hb3, hi3⟩ := hp
      obtain ⟨W4, e4, hr, hl4, hl3, hs4⟩ := fin none W3 hs3
      refine ⟨_, W4, hr, hs4, .inl ⟨rfl, ⟨?_, hl4⟩, ?_⟩⟩
      · rw [e4]; exact hI.putObj _ hi3 hBl hl3 rfl
      · rw [e4]; exact (hbb.trans hb3).putObj hDl _
    | ret =>
      obtain ⟨hs3, hi3⟩ := hp
      obtain ⟨W4, e4, hr, hl4, hl3, hs4⟩ := fin (some .ret) W3 hs3
      exact ⟨_, W4, hr, hs4, .inr ⟨rfl, .ret, by rw [e4]; exact (hIx _).putObj _ hi3 hBl hl3 rfl, hl4⟩⟩
    | exit id =>
      obtain ⟨hs3, hi3⟩ := hp
      obtain ⟨W4, e4, hr, hl4, hl3, hs4⟩ := fin (some (.exit id)) W3 hs3
      exact ⟨_, W4, hr, hs4, .inr ⟨rfl, .exit id, by rw [e4]; exact (hIx _).putObj _ hi3 hBl hl3 rfl, hl4⟩⟩
    | goto t =>
      obtain ⟨hs3, hi3⟩ := hp
      obtain ⟨W4, e4, hr, hl4, hl3, hs4⟩ := fin (some (.goto t)) W3 hs3
      exact ⟨_, W4, hr, hs4, .inr ⟨rfl, .goto t, by rw [e4]; exact (hIx _).putObj _ hi3 hBl hl3 rfl, hl4⟩⟩
    | panic ch => exact hp.elim
    | outgrown => exact hp.elim
  · rintro e W2 ⟨hv, (⟨m, xs, hS, hi, hlw⟩ | ⟨m, pre, hp, c, hi, hlw⟩)⟩
    · have hr := run_endLoop (P := P) hlw (by rw [hrec]; simp)
      refine ⟨hv, _, _, hr, .inl ⟨by rw [hrec], m, xs, hS, hI.putObj _ hi hBl hlw rfl⟩⟩
    · have hr := run_endLoop (P := P) hlw (by rw [hrec]; simp)
      refine ⟨hv, _, _, hr, .inr ⟨c, m, pre, by rw [hrec], hp, (hIx c).putObj _ hi hBl hlw rfl⟩⟩

/-- THE STATEMENT, OUTERMOST. D is the block of the rounds' deferred calls: at the function's return it is taken once more. -/
theorem rangeZ_out {gf : Nat} {D : Nat → Prop} {g : Operand} {ps : Array Tmp} {assign body : Code} {Q : Exit → Act → World → Prop} {a : Act} {w w0 : World} {lb : Array Value} {encs : α → Array Value} {S : List α → Prop}
    (hg : a.eval g = .func (.func gf) #[] lb) (eg : ∀ args w, (callFunc gf args).run P w = .ok (.enter gf args) w)
    (hseq : GivesZ P gf lb encs D S w0) (hb : Below w0.heap.size w0 w) (hn : ∀ k, D k → k < w.heap.size) (hps : ∀ x, (encs x).size = ps.size)
    (I : (Nat → Prop) → List α → World → Prop) (Ix : Code → (Nat → Prop) → List α → World → Prop) (hI : AbidesZ w.heap.size I) (hIx : ∀ c, AbidesZ w.heap.size (Ix c)) (h0 : I (fun _ => False) [] w)
    (Ax : α → Act → World → Prop) (hAx : ∀ x a', OwnFrom w.heap.size (fun (_ : Unit) W => Ax x a' W))
    (hassign : ∀ (l : Nat) (m : Nat → Prop) pre x W (K : Act → World → Prop), (∀ k, m k → w.heap.size ≤ k ∧ k < W.heap.size) → I m pre W → (∀ a' W', StaysZ w.heap.size m W W' → Keeps D W W' → I m pre W' → Ax x a' W' → K a' W') →
      assign.wpIn (Fence.wide.inRound l) 3 P (Exit.then K (fun _ _ _ => False)) { tmps := (ps.zip (encs x)).foldl (fun t (p, v) => t.setIfInBounds p v) a.tmps, defers := [] } W)
    (hbody : ∀ (l : Nat) (m : Nat → Prop) pre x a' W, (∀ k, m k → w.heap.size ≤ k ∧ k < W.heap.size) → w.heap.size ≤ l → (∃ r, W.heap[l]? = some (.loop r)) → I m pre W → Ax x a' W → Part S (pre ++ [x]) →
      body.wpIn (Fence.wide.inRound l) 3 P (roundPZ w.heap.size m D I Ix (pre ++ [x]) W) a' W)
    (hdone : ∀ (E : Nat) (m : Nat → Prop) xs W, w.heap.size ≤ E → S xs → I m xs W → W.heap[E]? = some (.deferred (some [])) → Q .normal { a with defers := { target := .collected E, args := #[] } :: a.defers } W)
    (hstop : ∀ (E : Nat) (c : Code) (m : Nat → Prop) pre W, w.heap.size ≤ E → Part S pre → Ix c m pre W → W.heap[E]? = some (.deferred (some [])) →
      c.wpIn Fence.wide 3 P Q { a with defers := { target := .collected E, args := #[] } :: a.defers } W) :
    (Code.rangeFunc g ps assign body).wpIn Fence.wide 3 P Q a w := by
  refine wpIn_rangeFunc ?_
  intro fn hfn
  obtain ⟨W1, hW1⟩ : ∃ W1, (w.alloc (.deferred (some []))).alloc (.loop { state := .ready, pending := none, fn, tmps := a.tmps, params := ps, assign, body, defers := w.heap.size }) = W1 := ⟨_, rfl⟩
  have hL1 : W1.heap[w.heap.size + 1]? = some (.loop { state := .ready, pending := none, fn, tmps := a.tmps, params := ps, assign, body, defers := w.heap.size }) := by
    rw [← hW1]; have := World.alloc_heap_new (w.alloc (.deferred (some []))) (.loop { state := .ready, pending := none, fn, tmps := a.tmps, params := ps, assign, body, defers := w.heap.size }); rwa [World.size_alloc] at this
  have hK1 : W1.heap[w.heap.size]? = some (.deferred (some [])) := by
    rw [← hW1]; exact (Below.heap_alloc _ _ _ (by simp)).trans (World.alloc_heap_new w _)
  have hbw : Below w.heap.size w W1 := by rw [← hW1]; exact ((Below.refl _ w).alloc (Nat.le_refl _) _).alloc (by simp) _
  refine ⟨w.heap.size + 1, [{ target := .collected w.heap.size, args := #[] }], W1, { target := .fn (.func gf) lb, args := #[.func (.yield (w.heap.size + 1)) #[] #[]] }, W1, gf,
    #[.func (.yield (w.heap.size + 1)) #[] #[]] ++ lb, W1, ?_, ?_, fun _ _ => trivial, ?_, fun h => (by simp [Fence.wide] at h), ?_⟩
  · rw [← hW1]; exact run_enterLoop_outer _ _ _ _ _
  · simp only [resolve, hg]
    simp [go_sem]
  · simp [invoke, go_sem, eg]
  · refine callsIn_wide.2 ((coreZ (B := w.heap.size + 1) hseq (hb.trans (hbw.mono hb.size)) hL1 (Nat.le_refl _) (fun k hk => Nat.lt_succ_of_lt (hn k hk)) hps
      (fun m pre W => I m pre W ∧ W.heap[w.heap.size]? = some (.deferred (some []))) (fun c m pre W => Ix c m pre W ∧ W.heap[w.heap.size]? = some (.deferred (some [])))
      (fun m m' s X Y hs ht hg => ⟨hI m m' s X Y hs.1 (ht.mono (by omega)) hg, ht.same _ _ hs.2 (.inl (by omega))⟩)
      (fun c m m' s X Y hs ht hg => ⟨hIx c m m' s X Y hs.1 (ht.mono (by omega)) hg, ht.same _ _ hs.2 (.inl (by omega))⟩)
      ⟨hI _ _ _ _ _ h0 (.of_below hbw) (fun k hk => hk.elim), hK1⟩ Ax (fun x a' s X Y row hs hg' hr => hAx x a' s X Y row hs hg' (fun r e => ⟨by have := (hr r e).1; omega, (hr r e).2⟩))
      (fun m pre x W K hm hi hK => hassign _ m pre x W K (fun k hk => ⟨Nat.le_trans hbw.size (hm k hk).1, (hm k hk).2⟩) hi.1 (fun a' W' hs hbe hi' hax => hK a' W' (hs.mono (by omega)) hbe ⟨hi', hs.same _ _ (Nat.le_refl _) hi.2 (.inr rfl)⟩ hax))
      (fun m pre x a' W hm hr hi hax hp => wpIn_mono (hbody _ m pre x a' W (fun k hk => ⟨Nat.le_trans hbw.size (hm k hk).1, (hm k hk).2⟩) (by omega) hr hi.1 hax hp) ?_)).mono ?_)
    · intro e a3 W3 h3
      have hD : ∀ {W' : World}, StaysZ w.heap.size m W W' → W'.heap[w.heap.size]? = some (.deferred (some [])) := fun hs => hs.same _ _ (Nat.le_refl _) hi.2 (.inr rfl)
      cases e with
      | normal => exact ⟨h3.1.mono (by omega), h3.2.1, h3.2.2, hD h3.1⟩
      | ret => exact ⟨h3.1.mono (by omega), h3.2, hD h3.1⟩
      | exit id => exact ⟨h3.1.mono (by omega), h3.2, hD h3.1⟩
      | goto t => exact ⟨h3.1.mono (by omega), h3.2, hD h3.1⟩
      | panic ch => exact h3
      | outgrown => exact h3
    · rintro e W2 ⟨⟨v, rfl⟩, jump, W3, hr, (⟨rfl, m, xs, hS, hi, hD⟩ | ⟨c, m, pre, rfl, hp, hi, hD⟩)⟩
      · exact ⟨none, W3, hr, hdone _ m xs W3 (Nat.le_refl _) hS hi hD⟩
      · exact ⟨some c, W3, hr, hstop _ c m pre W3 (Nat.le_refl _) hp hi hD⟩

/-- THE STATEMENT, OUTERMOST, WHERE A ROUND LEAVES BY 'break' AT MOST. -/
theorem rangeZ_break {id gf : Nat} {D : Nat → Prop} {g : Operand} {ps : Array Tmp} {assign body : Code} {Q : Exit → Act → World → Prop} {a : Act} {w w0 : World} {lb : Array Value} {encs : α → Array Value} {S : List α → Prop}
    (hg : a.eval g = .func (.func gf) #[] lb) (eg : ∀ args w, (callFunc gf args).run P w = .ok (.enter gf args) w)
    (hseq : GivesZ P gf lb encs D S w0) (hb : Below w0.heap.size w0 w) (hn : ∀ k, D k → k < w.heap.size) (hps : ∀ x, (encs x).size = ps.size)
    (I Ix : (Nat → Prop) → List α → World → Prop) (A : World → Prop) (hI : AbidesZ w.heap.size I) (hIx : AbidesZ w.heap.size Ix) (h0 : I (fun _ => False) [] w)
    (Ax : α → Act → World → Prop) (hAx : ∀ x a', OwnFrom w.heap.size (fun (_ : Unit) W => Ax x a' W))
    (hIA : ∀ m xs W, S xs → I m xs W → A W) (hIxA : ∀ m pre W, Part S pre → Ix m pre W → A W)
    (hassign : ∀ (l : Nat) (m : Nat → Prop) pre x W (K : Act → World → Prop), (∀ k, m k → w.heap.size ≤ k ∧ k < W.heap.size) → I m pre W → (∀ a' W', StaysZ w.heap.size m W W' → Keeps D W W' → I m pre W' → Ax x a' W' → K a' W') →
      assign.wpIn (Fence.wide.inRound l) 3 P (Exit.then K (fun _ _ _ => False)) { tmps := (ps.zip (encs x)).foldl (fun t (p, v) => t.setIfInBounds p v) a.tmps, defers := [] } W)
    (hbody : ∀ (l : Nat) (m : Nat → Prop) pre x a' W, (∀ k, m k → w.heap.size ≤ k ∧ k < W.heap.size) → w.heap.size ≤ l → (∃ r, W.heap[l]? = some (.loop r)) → I m pre W → Ax x a' W → Part S (pre ++ [x]) →
      body.wpIn (Fence.wide.inRound l) 3 P (roundPZ w.heap.size m D I (fun c m pre W => c = .exit id ∧ Ix m pre W) (pre ++ [x]) W) a' W)
    (hafter : ∀ (E : Nat) W, w.heap.size ≤ E → A W → W.heap[E]? = some (.deferred (some [])) → Q .normal { a with defers := { target := .collected E, args := #[] } :: a.defers } W) :
    (Code.rangeFunc g ps assign body).wpIn Fence.wide 3 P (Exit.inBlock id Q) a w :=
  rangeZ_out hg eg hseq hb hn hps I (fun c m pre W => c = .exit id ∧ Ix m pre W) hI (fun c m m' s W W' hs ht hg => ⟨hs.1, hIx m m' s W W' hs.2 ht hg⟩) h0 Ax hAx hassign hbody
    (fun E m xs W hE hS hi hK => hafter E W hE (hIA m xs W hS hi) hK)
    (fun E c m pre W hE hp hi hK => by
      obtain ⟨rfl, hi⟩ := hi
      refine wpIn_exit ?_
      have := hafter E W hE (hIxA m pre W hp hi) hK
      simpa [Exit.inBlock] using this)

/-- THE STATEMENT IN A ROUND OF LOOP l₀. -/
theorem rangeZ_in {l₀ gf : Nat} {D : Nat → Prop} {r₀ : Loop} {g : Operand} {ps : Array Tmp} {assign body : Code} {Q : Exit → Act → World → Prop} {a : Act} {w w0 : World} {lb : Array Value} {encs : α → Array Value} {S : List α → Prop}
    (hl₀ : w.heap[l₀]? = some (.loop r₀)) (hg : a.eval g = .func (.func gf) #[] lb) (eg : ∀ args w, (callFunc gf args).run P w = .ok (.enter gf args) w)
    (hseq : GivesZ P gf lb encs D S w0) (hb : Below w0.heap.size w0 w) (hn : ∀ k, D k → k < w.heap.size) (hps : ∀ x, (encs x).size = ps.size)
    (I : (Nat → Prop) → List α → World → Prop) (Ix : Code → (Nat → Prop) → List α → World → Prop) (hI : AbidesZ w.heap.size I) (hIx : ∀ c, AbidesZ w.heap.size (Ix c)) (h0 : I (fun _ => False) [] w)
    (Ax : α → Act → World → Prop) (hAx : ∀ x a', OwnFrom w.heap.size (fun (_ : Unit) W => Ax x a' W))
    (hassign : ∀ (l : Nat) (m : Nat → Prop) pre x W (K : Act → World → Prop), (∀ k, m k → w.heap.size ≤ k ∧ k < W.heap.size) → I m pre W → (∀ a' W', StaysZ w.heap.size m W W' → Keeps D W W' → I m pre W' → Ax x a' W' → K a' W') →
      assign.wpIn (Fence.wide.inRound l) 3 P (Exit.then K (fun _ _ _ => False)) { tmps := (ps.zip (encs x)).foldl (fun t (p, v) => t.setIfInBounds p v) a.tmps, defers := [] } W)
    (hbody : ∀ (l : Nat) (m : Nat → Prop) pre x a' W, (∀ k, m k → w.heap.size ≤ k ∧ k < W.heap.size) → w.heap.size ≤ l → (∃ r, W.heap[l]? = some (.loop r)) → I m pre W → Ax x a' W → Part S (pre ++ [x]) →
      body.wpIn (Fence.wide.inRound l) 3 P (roundPZ w.heap.size m D I Ix (pre ++ [x]) W) a' W)
    (hdone : ∀ (m : Nat → Prop) xs W, S xs → I m xs W → Q .normal a W)
    (hstop : ∀ (c : Code) (m : Nat → Prop) pre W, Part S pre → Ix c m pre W → c.wpIn (Fence.wide.inRound l₀) 3 P Q a W) :
    (Code.rangeFunc g ps assign body).wpIn (Fence.wide.inRound l₀) 3 P Q a w := by
  refine wpIn_rangeFunc ?_
  intro fn hfn
  obtain ⟨W1, hW1⟩ : ∃ W1, w.alloc (.loop { state := .ready, pending := none, fn, tmps := a.tmps, params := ps, assign, body, defers := r₀.defers }) = W1 := ⟨_, rfl⟩
  have hL1 : W1.heap[w.heap.size]? = some (.loop { state := .ready, pending := none, fn, tmps := a.tmps, params := ps, assign, body, defers := r₀.defers }) := by
    rw [← hW1]; exact World.alloc_heap_new w _
  have hbw : Below w.heap.size w W1 := by rw [← hW1]; exact (Below.refl _ w).alloc (Nat.le_refl _) _
  refine ⟨w.heap.size, [], W1, { target := .fn (.func gf) lb, args := #[.func (.yield w.heap.size) #[] #[]] }, W1, gf,
    #[.func (.yield w.heap.size) #[] #[]] ++ lb, W1, ?_, ?_, fun _ _ => trivial, ?_, fun h => (by simp [Fence.wide] at h), ?_⟩
  · rw [← hW1]; exact run_enterLoop_inner hl₀ _ _ _ _ _
  · simp only [resolve, hg]
    simp [go_sem]
  · simp [invoke, go_sem, eg]
  · refine CallsIn.inRound l₀ (callsIn_wide.2 ((coreZ (B := w.heap.size) hseq (hb.trans (hbw.mono hb.size)) hL1 (Nat.le_refl _) hn hps I Ix hI hIx
      (hI _ _ _ _ _ h0 (.of_below hbw) (fun k hk => hk.elim)) Ax hAx (fun m pre x W K hm hi hK => hassign _ m pre x W K (fun k hk => ⟨Nat.le_trans hbw.size (hm k hk).1, (hm k hk).2⟩) hi hK)
      (fun m pre x a' W hm hr hi hax hp => hbody _ m pre x a' W (fun k hk => ⟨Nat.le_trans hbw.size (hm k hk).1, (hm k hk).2⟩) (Nat.le_refl _) hr hi hax hp)).mono ?_))
    rintro e W2 ⟨⟨v, rfl⟩, jump, W3, hr, (⟨rfl, m, xs, hS, hi⟩ | ⟨c, m, pre, rfl, hp, hi⟩)⟩
    · exact ⟨none, W3, hr, hdone m xs W3 hS hi⟩
    · exact ⟨some c, W3, hr, hstop c m pre W3 hp hi⟩
end core


section
variable {α γ : Type} {P : Program} {n : Nat} {D : List Deferred} {M : Slots}
/-- A range over a function, outermost, of which a round may break at most. -/
theorem CC.rangeZ {id gf : Nat} {Dk : Nat → Prop} {g : Operand} {ps : Array Tmp} {assign body : Code} {Q : Exit → Act → World → Prop} {w w0 : World} {lb : List Value} {encs : α → List Value} {S : List α → Prop}
    (hg : evM M g = some (.func (.func gf) #[] lb.toArray)) (eg : entB P gf = true) (hseq : GivesZ P gf lb.toArray (fun x => (encs x).toArray) Dk S w0) (hb : Below w0.heap.size w0 w) (hn : ∀ k, Dk k → k < w.heap.size) (hps : ∀ x, (encs x).length = ps.size) (hpn : (ps.toList.all fun p => Nat.blt p n) = true)
    (I Ix : (Nat → Prop) → List α → World → Prop) (A : World → Prop) (hI : AbidesZ w.heap.size I) (hIx : AbidesZ w.heap.size Ix) (h0 : I (fun _ => False) [] w) (hIA : ∀ m xs W, S xs → I m xs W → A W) (hIxA : ∀ m pre W, Part S pre → Ix m pre W → A W)
    (Mx : α → γ → Slots) (Ax : α → γ → World → Prop) (hAx : ∀ x c, OwnFrom w.heap.size (fun (_ : Unit) W => Ax x c W))
    (hassign : ∀ (l : Nat) (m : Nat → Prop) pre x W (K : Act → World → Prop), (∀ k, m k → w.heap.size ≤ k ∧ k < W.heap.size) → I m pre W → (∀ a' W' c, StaysZ w.heap.size m W W' → Keeps Dk W W' → I m pre W' → Fr n [] (Mx x c) a' → Ax x c W' → K a' W') → CC (some l) P (Exit.then K (fun _ _ _ => False)) n [] (psM M ps.toList (encs x)) assign W)
    (hbody : ∀ (l : Nat) (m : Nat → Prop) pre x c W, (∀ k, m k → w.heap.size ≤ k ∧ k < W.heap.size) → w.heap.size ≤ l → (∃ r, W.heap[l]? = some (.loop r)) → I m pre W → Ax x c W → Part S (pre ++ [x]) → CC (some l) P (roundPZ w.heap.size m Dk I (fun c m pre W => c = .exit id ∧ Ix m pre W) (pre ++ [x]) W) n [] (Mx x c) body W)
    (hafter : ∀ (E : Nat) W, w.heap.size ≤ E → A W → W.heap[E]? = some (.deferred (some [])) → EE Q n (mark E :: D) M .normal W) :
    CC none P (Exit.inBlock id Q) n D M (.rangeFunc g ps assign body) w := CC.mk fun a F => by
  refine rangeZ_break (gf := gf) (lb := lb.toArray) (F.ev hg) (ent_of eg) hseq hb hn (fun x => by simpa using hps x) I Ix A hI hIx h0 (fun x a' W => ∃ c, Fr n [] (Mx x c) a' ∧ Ax x c W) (fun x a' _ W W' row hs hg hr => by
    obtain ⟨c, hF, hc⟩ := hs
    exact ⟨c, hF, hAx x c () W W' row hc hg hr⟩) hIA hIxA ?_ ?_ ?_
  · intro l m pre x W K hm hi hK
    refine (hassign l m pre x W K hm hi fun a' W' c h1 h2 h3 h4 h5 => hK a' W' h1 h2 h3 ⟨c, h4, h5⟩).h _ ?_
    have F0 : Fr n [] M ⟨a.tmps, []⟩ := ⟨F.size, rfl, F.get⟩
    have := psM_fr ps.toList (encs x) M a.tmps [] F0 hpn
    have e : (ps.zip (encs x).toArray).foldl (fun t (p, v) => t.setIfInBounds p v) a.tmps = (ps.toList.zip (encs x)).foldl (fun t (p, v) => t.setIfInBounds p v) a.tmps := by
      obtain ⟨l⟩ := ps
      rw [← Array.foldl_toList]
      simp
    rw [e]
    exact this
  · intro l m pre x a' W hm hl hr hi hax hp
    obtain ⟨c, hF, hc⟩ := hax
    exact (hbody l m pre x c W hm hl hr hi hc hp).h a' hF
  · intro E W hE hA hd
    exact (hafter E W hE hA hd).h _ ⟨F.size, by rw [F.defers]; rfl, F.get⟩
theorem EE.roundNZ {B : Nat} {m : Nat → Prop} {Dk : Nat → Prop} {I : (Nat → Prop) → List α → World → Prop} {Ix : Code → (Nat → Prop) → List α → World → Prop} {xs : List α} {W w : World} (h : StaysZ B m W w ∧ Keeps Dk W w ∧ I m xs w) : EE (roundPZ B m Dk I Ix xs W) n D M .normal w := EE.mk fun _ _ => h
theorem EE.roundXZ {B id : Nat} {m : Nat → Prop} {Dk : Nat → Prop} {I : (Nat → Prop) → List α → World → Prop} {Ix : Code → (Nat → Prop) → List α → World → Prop} {xs : List α} {W w : World} (h : StaysZ B m W w ∧ Ix (.exit id) m xs w) : EE (roundPZ B m Dk I Ix xs W) n D M (.exit id) w := EE.mk fun _ _ => h
theorem EE.roundRZ {B : Nat} {m : Nat → Prop} {Dk : Nat → Prop} {I : (Nat → Prop) → List α → World → Prop} {Ix : Code → (Nat → Prop) → List α → World → Prop} {xs : List α} {W w : World} (h : StaysZ B m W w ∧ Ix .ret m xs w) : EE (roundPZ B m Dk I Ix xs W) n D M .ret w := EE.mk fun _ _ => h
end
end Go.Proofs.Ytajfffoaebjnlaa
