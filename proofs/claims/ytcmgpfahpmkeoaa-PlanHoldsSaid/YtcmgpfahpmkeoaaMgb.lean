/- What the statements' walks use: Seq, SeqZ, Grow, Res1, Sl, TWalk, OwnZ, CellE, Map, EqS, Arr, EqA, Zeros, Pa, MapZ. -/
import Derived.Scope
import Derived.Deep.RegionLawGrows
import Derived.Deep.RegionWith
import Derived.Maps.RangeRun
import Derived.Tactics
import Derived.Tactics2
import Derived.ChangeKeysEq
import Derived.Laws.StructEq
import Derived.Lib.AppendZerosOnto
import Derived.Test.YtcmgpfahpmkeoaaProg
import Derived.Test.YtcmgpfahpmkeoaaMga
/- Ranges over functions, anew: a round knows that the iterator's own rows lie below its own; what the round's variables are is told by more than the element. -/
namespace Go.Proofs.Ytcmgpfahpmkeoaa
set_option linter.unusedVariables false
set_option linter.unusedSimpArgs false
open Go.RowKit Go.Shelf

/-- WHAT AN ITERATOR'S VALUE GIVES: one of the lists of S, or a beginning of one, where a round has said 'no more'. -/
def GivesM {α : Type} (P : Program) (g : Nat) (lb : Array Value) (encs : α → Array Value) (D : Nat → Prop) (S : List α → Prop) (w : World) : Prop :=
  ∀ (l : Nat) (J Jx : Nat → List α → World → Prop) (W : World), Below w.heap.size w W → (∀ m, Abides W.heap.size m (J m)) → (∀ m, Abides W.heap.size m (Jx m)) →
    (∀ m pre x W1, W.heap.size ≤ m → m ≤ W1.heap.size → J m pre W1 → Part S (pre ++ [x]) → YieldAt Fence.wide 3 P l (encs x) W1 fun e W' =>
      Stays W.heap.size m W1 W' ∧ ((e = .returned (.bool true) ∧ J m (pre ++ [x]) W' ∧ Keeps D W1 W') ∨ (e = .returned (.bool false) ∧ Jx m (pre ++ [x]) W'))) →
    (∀ m, J m [] W) →
    Calls P g (#[.func (.yield l) #[] #[]] ++ lb) W fun e W' => (∃ v, e = .returned v) ∧ ((∃ m xs, S xs ∧ J m xs W') ∨ (∃ m pre, Part S pre ∧ Jx m pre W'))

theorem GivesM.later {α : Type} {P : Program} {g : Nat} {lb : Array Value} {encs : α → Array Value} {D : Nat → Prop} {S : List α → Prop} {w w' : World}
    (h : GivesM P g lb encs D S w) (hb : Below w.heap.size w w') : GivesM P g lb encs D S w' :=
  fun l J Jx W hW hJ hJx hY h0 => h l J Jx W (hb.trans (hW.mono hb.size)) hJ hJx hY h0

section core
variable {α : Type} {P : Program}

theorem coreM {l B d gf : Nat} {D : Nat → Prop} {fn : FuncId} {tm : Array Value} {ps : Array Tmp} {assign body : Code} {lb : Array Value} {encs : α → Array Value} {S : List α → Prop} {w0 W1 : World}
    (hseq : GivesM P gf lb encs D S w0) (hb : Below w0.heap.size w0 W1)
    (hl : W1.heap[l]? = some (.loop { state := .ready, pending := none, fn, tmps := tm, params := ps, assign, body, defers := d }))
    (hBl : B ≤ l) (hn : ∀ k, D k → k < l) (hps : ∀ x, (encs x).size = ps.size)
    (I : Nat → List α → World → Prop) (Ix : Code → Nat → List α → World → Prop) (hI : ∀ m, Abides B m (I m)) (hIx : ∀ c m, Abides B m (Ix c m)) (h0 : ∀ m, I m [] W1)
    (Ax : α → Act → World → Prop) (hAx : ∀ x a', OwnFrom B (fun (_ : Unit) W => Ax x a' W))
    (hassign : ∀ m pre x W (K : Act → World → Prop), W1.heap.size ≤ m → m ≤ W.heap.size → I m pre W → (∀ a' W', Stays B m W W' → Keeps D W W' → I m pre W' → Ax x a' W' → K a' W') →
      assign.wpIn (Fence.wide.inRound l) 3 P (Exit.then K (fun _ _ _ => False)) { tmps := (ps.zip (encs x)).foldl (fun t (p, v) => t.setIfInBounds p v) tm, defers := [] } W)
    (hbody : ∀ m pre x a' W, W1.heap.size ≤ m → m ≤ W.heap.size → (∃ r, W.heap[l]? = some (.loop r)) → I m pre W → Ax x a' W → Part S (pre ++ [x]) →
      body.wpIn (Fence.wide.inRound l) 3 P (roundP B m D I Ix (pre ++ [x]) W) a' W) :
    Calls P gf (#[.func (.yield l) #[] #[]] ++ lb) W1 (fun e W2 => (∃ v, e = .returned v) ∧ ∃ jump W3, (Instr.endLoop l).run P W2 = .ok jump W3 ∧
      ((jump = none ∧ ∃ m xs, S xs ∧ I m xs W3) ∨ (∃ c m pre, jump = some c ∧ Part S pre ∧ Ix c m pre W3))) := by
  have hlt1 : l < W1.heap.size := (Array.getElem?_eq_some_iff.1 hl).1
  obtain ⟨rec, hrec⟩ : ∃ rec : LoopState → Option Code → Loop, rec = fun st pe => { state := st, pending := pe, fn, tmps := tm, params := ps, assign, body, defers := d } := ⟨_, rfl⟩
  have hl1 : W1.heap[l]? = some (.loop (rec .ready none)) := by rw [hrec]; exact hl
  refine (hseq l (fun m pre W => I m pre W ∧ W.heap[l]? = some (.loop (rec .ready none)))
    (fun m pre W => ∃ c, Ix c m pre W ∧ W.heap[l]? = some (.loop (rec .done (some c)))) W1 hb
    (fun m s X Y hs ht => ⟨hI m s X Y hs.1 (ht.mono (by omega)), ht.same l _ hs.2 (.inl hlt1)⟩)
    (fun m s X Y hs ht => by obtain ⟨c, hc, hx⟩ := hs; exact ⟨c, hIx c m s X Y hc (ht.mono (by omega)), ht.same l _ hx (.inl hlt1)⟩)
    ?_ (fun m => ⟨h0 m, hl1⟩)).mono ?_
  · rintro m pre x W hm hm2 ⟨hi, hlw⟩ hpart
    have hy := run_yield (P := P) (args := encs x) hlw (by rw [hrec]; exact hps x)
    rw [hrec] at hy
    refine ⟨fn, _, assign, body, hy, roundIn_of_wpIn trivial (hassign m pre x W _ hm hm2 hi ?_)⟩
    intro a' Wa hst hbe hia hax
    have hla := hst.record hBl hlw
    have hlta : l < Wa.heap.size := (Array.getElem?_eq_some_iff.1 hla).1
    obtain ⟨Wb, hWb⟩ : ∃ Wb, Wa.putObj l (.loop { rec .ready none with state := .busy }) = Wb := ⟨_, rfl⟩
    refine ⟨Wb, by rw [← hWb]; exact run_beginRound hla (by rw [hrec]), ?_⟩
    have hlb : Wb.heap[l]? = some (.loop { rec .ready none with state := .busy }) := by rw [← hWb]; exact World.putObj_heap_same hlta
    have hib : I m pre Wb := by rw [← hWb]; exact (hI m).putObj _ hia hBl hla rfl
    have haxb : Ax x a' Wb := by rw [← hWb]; exact (hAx x a').putObj (s := ()) _ hax hBl hla rfl
    have hsb : Stays W1.heap.size m W Wb := by rw [← hWb]; exact (hst.mono (by omega)).trans (.turn hlt1)
    have hDl : ¬ D l := fun h => Nat.lt_irrefl _ (hn l h)
    have hbb : Keeps D W Wb := by rw [← hWb]; exact hbe.putObj hDl _
    refine wpIn_mono (hbody m pre x a' Wb hm (Nat.le_trans hm2 hsb.size) ⟨_, hlb⟩ hib haxb hpart) ?_
    have fin : ∀ (jump : Option Code) (W3 : World), Stays B m Wb W3 → ∃ W4, W4 = W3.putObj l (.loop (rec (if jump.isNone then .ready else .done) jump)) ∧
        (Instr.endRound l jump).run P W3 = .ok (.bool jump.isNone) W4 ∧ W4.heap[l]? = some (.loop (rec (if jump.isNone then .ready else .done) jump)) ∧
        W3.heap[l]? = some (.loop { rec .ready none with state := .busy }) ∧ Stays W1.heap.size m W W4 := fun jump W3 hs3 => by
      have hl3 := hs3.record hBl hlb
      have hr := run_endRound (P := P) jump hl3
      rw [hrec] at hr ⊢
      refine ⟨_, rfl, hr, World.putObj_heap_same (Array.getElem?_eq_some_iff.1 hl3).1, by rw [hrec] at hl3; exact hl3, ?_⟩
      exact (hsb.trans (hs3.mono (by omega))).trans (.turn hlt1)
    rintro e a3 W3 hp
    cases e with
    | normal =>
      obtain ⟨hs3, hb3, hi3⟩ := hp
      obtain ⟨W4, e4, hr, hl4, hl3, hs4⟩ := fin none W3 hs3
      refine ⟨_, W4, hr, hs4, .inl ⟨rfl, ⟨?_, hl4⟩, ?_⟩⟩
      · rw [e4]; exact (hI m).putObj _ hi3 hBl hl3 rfl
      · rw [e4]; exact (hbb.trans hb3).putObj hDl _
    | ret =>
      obtain ⟨hs3, hi3⟩ := hp
      obtain ⟨W4, e4, hr, hl4, hl3, hs4⟩ := fin (some .ret) W3 hs3
      exact ⟨_, W4, hr, hs4, .inr ⟨rfl, .ret, by rw [e4]; exact (hIx _ m).putObj _ hi3 hBl hl3 rfl, hl4⟩⟩
    | exit id =>
      obtain ⟨hs3, hi3⟩ := hp
      obtain ⟨W4, e4, hr, hl4, hl3, hs4⟩ := fin (some (.exit id)) W3 hs3
      exact ⟨_, W4, hr, hs4, .inr ⟨rfl, .exit id, by rw [e4]; exact (hIx _ m).putObj _ hi3 hBl hl3 rfl, hl4⟩⟩
    | goto t =>
      obtain ⟨hs3, hi3⟩ := hp
      obtain ⟨W4, e4, hr, hl4, hl3, hs4⟩ := fin (some (.goto t)) W3 hs3
      exact ⟨_, W4, hr, hs4, .inr ⟨rfl, .goto t, by rw [e4]; exact (hIx _ m).putObj _ hi3 hBl hl3 rfl, hl4⟩⟩
    | panic ch => exact hp.elim
    | outgrown => exact hp.elim
  · rintro e W2 ⟨hv, (⟨m, xs, hS, hi, hlw⟩ | ⟨m, pre, hp, c, hi, hlw⟩)⟩
    · have hr := run_endLoop (P := P) hlw (by rw [hrec]; simp)
      refine ⟨hv, _, _, hr, .inl ⟨by rw [hrec], m, xs, hS, (hI m).putObj _ hi hBl hlw rfl⟩⟩
    · have hr := run_endLoop (P := P) hlw (by rw [hrec]; simp)
      refine ⟨hv, _, _, hr, .inr ⟨c, m, pre, by rw [hrec], hp, (hIx c m).putObj _ hi hBl hlw rfl⟩⟩

/-- THE STATEMENT, OUTERMOST. D is the block of the rounds' deferred calls: at the function's return it is taken once more. -/
theorem rangeM_out {gf : Nat} {D : Nat → Prop} {g : Operand} {ps : Array Tmp} {assign body : Code} {Q : Exit → Act → World → Prop} {a : Act} {w w0 : World} {lb : Array Value} {encs : α → Array Value} {S : List α → Prop}
    (hg : a.eval g = .func (.func gf) #[] lb) (eg : ∀ args w, (callFunc gf args).run P w = .ok (.enter gf args) w)
    (hseq : GivesM P gf lb encs D S w0) (hb : Below w0.heap.size w0 w) (hn : ∀ k, D k → k < w.heap.size) (hps : ∀ x, (encs x).size = ps.size)
    (I : Nat → List α → World → Prop) (Ix : Code → Nat → List α → World → Prop) (hI : ∀ m, Abides w.heap.size m (I m)) (hIx : ∀ c m, Abides w.heap.size m (Ix c m)) (h0 : ∀ m, I m [] w)
    (Ax : α → Act → World → Prop) (hAx : ∀ x a', OwnFrom w.heap.size (fun (_ : Unit) W => Ax x a' W))
    (hassign : ∀ (l m : Nat) pre x W (K : Act → World → Prop), w.heap.size ≤ m → m ≤ W.heap.size → I m pre W → (∀ a' W', Stays w.heap.size m W W' → Keeps D W W' → I m pre W' → Ax x a' W' → K a' W') →
      assign.wpIn (Fence.wide.inRound l) 3 P (Exit.then K (fun _ _ _ => False)) { tmps := (ps.zip (encs x)).foldl (fun t (p, v) => t.setIfInBounds p v) a.tmps, defers := [] } W)
    (hbody : ∀ (l m : Nat) pre x a' W, w.heap.size ≤ m → m ≤ W.heap.size → w.heap.size ≤ l → (∃ r, W.heap[l]? = some (.loop r)) → I m pre W → Ax x a' W → Part S (pre ++ [x]) →
      body.wpIn (Fence.wide.inRound l) 3 P (roundP w.heap.size m D I Ix (pre ++ [x]) W) a' W)
    (hdone : ∀ (E m : Nat) xs W, w.heap.size ≤ E → S xs → I m xs W → W.heap[E]? = some (.deferred (some [])) → Q .normal { a with defers := { target := .collected E, args := #[] } :: a.defers } W)
    (hstop : ∀ (E : Nat) (c : Code) (m : Nat) pre W, w.heap.size ≤ E → Part S pre → Ix c m pre W → W.heap[E]? = some (.deferred (some [])) →
      c.wpIn Fence.wide 3 P Q { a with defers := { target := .collected E, args := #[] } :: a.defers } W) :
    (Code.rangeFunc g ps assign body).wpIn Fence.wide 3 P Q a w := by
  refine wpIn_rangeFunc ?_
  intro fn hfn
  obtain ⟨W1, hW1⟩ : ∃ W1, (w.alloc (.deferred (some []))).alloc (.loop { state := .ready, pending := none, fn, tmps := a.tmps, params := ps, assign, body, defers := w.heap.size }) = W1 := ⟨_, rfl⟩
  have hL1 : W1.heap[w.heap.size + 1]? = some (.loop { state := .ready, pending := none, fn, tmps := a.tmps, params := ps, assign, body, defers := w.heap.size }) := by
    rw [← hW1]; have := World.alloc_heap_new (w.alloc (.deferred (some []))) (.loop { state := .ready, pending := none, fn, tmps := a.tmps, params := ps, assign, body, defers := w.heap.size }); rwa [World.size_alloc] at this
  have hK1 : W1.heap[w.heap.size]? = some (.deferred (some [])) := by
    rw [← hW1]; exact (Below.heap_alloc _ _ _ (by simp)).trans (World.alloc_heap_new w _)
  have hbw : Below w.heap.size w W1 := by rw [← hW1]; exact ((Below.refl _ w).alloc (Nat.le_refl _) _).alloc (by simp) _
  refine ⟨w.heap.size + 1, [{ target := .collected w.heap.size, args := #[] }], W1, { target := .fn (.func gf) lb, args := #[.func (.yield (w.heap.size + 1)) #[] #[]] }, W1, gf,
    #[.func (.yield (w.heap.size + 1)) #[] #[]] ++ lb, W1, ?_, ?_, fun _ _ => trivial, ?_, fun h => (by simp [Fence.wide] at h), ?_⟩
  · rw [← hW1]; exact run_enterLoop_outer _ _ _ _ _
  · simp only [resolve, hg]
    simp [go_sem]
  · simp [invoke, go_sem, eg]
  · refine callsIn_wide.2 ((coreM (B := w.heap.size + 1) hseq (hb.trans (hbw.mono hb.size)) hL1 (Nat.le_refl _) (fun k hk => Nat.lt_succ_of_lt (hn k hk)) hps
      (fun m pre W => I m pre W ∧ W.heap[w.heap.size]? = some (.deferred (some []))) (fun c m pre W => Ix c m pre W ∧ W.heap[w.heap.size]? = some (.deferred (some [])))
      (fun m s X Y hs ht => ⟨hI m s X Y hs.1 (ht.mono (by omega)), ht.same _ _ hs.2 (.inl (by omega))⟩)
      (fun c m s X Y hs ht => ⟨hIx c m s X Y hs.1 (ht.mono (by omega)), ht.same _ _ hs.2 (.inl (by omega))⟩)
      (fun m => ⟨hI m _ _ _ (h0 m) (.of_below hbw), hK1⟩) Ax (fun x a' s X Y row hs hg' hr => hAx x a' s X Y row hs hg' (fun r e => ⟨by have := (hr r e).1; omega, (hr r e).2⟩))
      (fun m pre x W K hm hm2 hi hK => hassign _ m pre x W K (Nat.le_trans hbw.size hm) hm2 hi.1 (fun a' W' hs hbe hi' hax => hK a' W' (hs.mono (by omega)) hbe ⟨hi', hs.same _ _ (Nat.le_refl _) hi.2 (.inr rfl)⟩ hax))
      (fun m pre x a' W hm hm2 hr hi hax hp => wpIn_mono (hbody _ m pre x a' W (Nat.le_trans hbw.size hm) hm2 (by omega) hr hi.1 hax hp) ?_)).mono ?_)
    · intro e a3 W3 h3
      have hD : ∀ {W' : World}, Stays w.heap.size m W W' → W'.heap[w.heap.size]? = some (.deferred (some [])) := fun hs => hs.same _ _ (Nat.le_refl _) hi.2 (.inr rfl)
      cases e with
      | normal => exact ⟨h3.1.mono (by omega), h3.2.1, h3.2.2, hD h3.1⟩
      | ret => exact ⟨h3.1.mono (by omega), h3.2, hD h3.1⟩
      | exit id => exact ⟨h3.1.mono (by omega), h3.2, hD h3.1⟩
      | goto t => exact ⟨h3.1.mono (by omega), h3.2, hD h3.1⟩
      | panic ch => exact h3
      | outgrown => exact h3
    · rintro e W2 ⟨⟨v, rfl⟩, jump, W3, hr, (⟨rfl, m, xs, hS, hi, hD⟩ | ⟨c, m, pre, rfl, hp, hi, hD⟩)⟩
      · exact ⟨none, W3, hr, hdone _ m xs W3 (Nat.le_refl _) hS hi hD⟩
      · exact ⟨some c, W3, hr, hstop _ c m pre W3 (Nat.le_refl _) hp hi hD⟩

/-- THE STATEMENT, OUTERMOST, WHERE A ROUND LEAVES BY 'break' AT MOST. -/
theorem rangeM_break {id gf : Nat} {D : Nat → Prop} {g : Operand} {ps : Array Tmp} {assign body : Code} {Q : Exit → Act → World → Prop} {a : Act} {w w0 : World} {lb : Array Value} {encs : α → Array Value} {S : List α → Prop}
    (hg : a.eval g = .func (.func gf) #[] lb) (eg : ∀ args w, (callFunc gf args).run P w = .ok (.enter gf args) w)
    (hseq : GivesM P gf lb encs D S w0) (hb : Below w0.heap.size w0 w) (hn : ∀ k, D k → k < w.heap.size) (hps : ∀ x, (encs x).size = ps.size)
    (I Ix : Nat → List α → World → Prop) (A : World → Prop) (hI : ∀ m, Abides w.heap.size m (I m)) (hIx : ∀ m, Abides w.heap.size m (Ix m)) (h0 : ∀ m, I m [] w)
    (Ax : α → Act → World → Prop) (hAx : ∀ x a', OwnFrom w.heap.size (fun (_ : Unit) W => Ax x a' W))
    (hIA : ∀ m xs W, S xs → I m xs W → A W) (hIxA : ∀ m pre W, Part S pre → Ix m pre W → A W)
    (hassign : ∀ (l m : Nat) pre x W (K : Act → World → Prop), w.heap.size ≤ m → m ≤ W.heap.size → I m pre W → (∀ a' W', Stays w.heap.size m W W' → Keeps D W W' → I m pre W' → Ax x a' W' → K a' W') →
      assign.wpIn (Fence.wide.inRound l) 3 P (Exit.then K (fun _ _ _ => False)) { tmps := (ps.zip (encs x)).foldl (fun t (p, v) => t.setIfInBounds p v) a.tmps, defers := [] } W)
    (hbody : ∀ (l m : Nat) pre x a' W, w.heap.size ≤ m → m ≤ W.heap.size → w.heap.size ≤ l → (∃ r, W.heap[l]? = some (.loop r)) → I m pre W → Ax x a' W → Part S (pre ++ [x]) →
      body.wpIn (Fence.wide.inRound l) 3 P (roundP w.heap.size m D I (fun c m pre W => c = .exit id ∧ Ix m pre W) (pre ++ [x]) W) a' W)
    (hafter : ∀ (E : Nat) W, w.heap.size ≤ E → A W → W.heap[E]? = some (.deferred (some [])) → Q .normal { a with defers := { target := .collected E, args := #[] } :: a.defers } W) :
    (Code.rangeFunc g ps assign body).wpIn Fence.wide 3 P (Exit.inBlock id Q) a w :=
  rangeM_out hg eg hseq hb hn hps I (fun c m pre W => c = .exit id ∧ Ix m pre W) hI (fun c m => (Abides.pure (fun _ => c = .exit id)).and (hIx m)) h0 Ax hAx hassign hbody
    (fun E m xs W hE hS hi hK => hafter E W hE (hIA m xs W hS hi) hK)
    (fun E c m pre W hE hp hi hK => by
      obtain ⟨rfl, hi⟩ := hi
      refine wpIn_exit ?_
      have := hafter E W hE (hIxA m pre W hp hi) hK
      simpa [Exit.inBlock] using this)

/-- THE STATEMENT IN A ROUND OF LOOP l₀. -/
theorem rangeM_in {l₀ gf : Nat} {D : Nat → Prop} {r₀ : Loop} {g : Operand} {ps : Array Tmp} {assign body : Code} {Q : Exit → Act → World → Prop} {a : Act} {w w0 : World} {lb : Array Value} {encs : α → Array Value} {S : List α → Prop}
    (hl₀ : w.heap[l₀]? = some (.loop r₀)) (hg : a.eval g = .func (.func gf) #[] lb) (eg : ∀ args w, (callFunc gf args).run P w = .ok (.enter gf args) w)
    (hseq : GivesM P gf lb encs D S w0) (hb : Below w0.heap.size w0 w) (hn : ∀ k, D k → k < w.heap.size) (hps : ∀ x, (encs x).size = ps.size)
    (I : Nat → List α → World → Prop) (Ix : Code → Nat → List α → World → Prop) (hI : ∀ m, Abides w.heap.size m (I m)) (hIx : ∀ c m, Abides w.heap.size m (Ix c m)) (h0 : ∀ m, I m [] w)
    (Ax : α → Act → World → Prop) (hAx : ∀ x a', OwnFrom w.heap.size (fun (_ : Unit) W => Ax x a' W))
    (hassign : ∀ (l m : Nat) pre x W (K : Act → World → Prop), w.heap.size ≤ m → m ≤ W.heap.size → I m pre W → (∀ a' W', Stays w.heap.size m W W' → Keeps D W W' → I m pre W' → Ax x a' W' → K a' W') →
      assign.wpIn (Fence.wide.inRound l) 3 P (Exit.then K (fun _ _ _ => False)) { tmps := (ps.zip (encs x)).foldl (fun t (p, v) => t.setIfInBounds p v) a.tmps, defers := [] } W)
    (hbody : ∀ (l m : Nat) pre x a' W, w.heap.size ≤ m → m ≤ W.heap.size → w.heap.size ≤ l → (∃ r, W.heap[l]? = some (.loop r)) → I m pre W → Ax x a' W → Part S (pre ++ [x]) →
      body.wpIn (Fence.wide.inRound l) 3 P (roundP w.heap.size m D I Ix (pre ++ [x]) W) a' W)
    (hdone : ∀ (m : Nat) xs W, S xs → I m xs W → Q .normal a W)
    (hstop : ∀ (c : Code) (m : Nat) pre W, Part S pre → Ix c m pre W → c.wpIn (Fence.wide.inRound l₀) 3 P Q a W) :
    (Code.rangeFunc g ps assign body).wpIn (Fence.wide.inRound l₀) 3 P Q a w := by
  refine wpIn_rangeFunc ?_
  intro fn hfn
  obtain ⟨W1, hW1⟩ : ∃ W1, w.alloc (.loop { state := .ready, pending := none, fn, tmps := a.tmps, params := ps, assign, body, defers := r₀.defers }) = W1 := ⟨_, rfl⟩
  have hL1 : W1.heap[w.heap.size]? = some (.loop { state := .ready, pending := none, fn, tmps := a.tmps, params := ps, assign, body, defers := r₀.defers }) := by
    rw [← hW1]; exact World.alloc_heap_new w _
  have hbw : Below w.heap.size w W1 := by rw [← hW1]; exact (Below.refl _ w).alloc (Nat.le_refl _) _
  refine ⟨w.heap.size, [], W1, { target := .fn (.func gf) lb, args := #[.func (.yield w.heap.size) #[] #[]] }, W1, gf,
    #[.func (.yield w.heap.size) #[] #[]] ++ lb, W1, ?_, ?_, fun _ _ => trivial, ?_, fun h => (by simp [Fence.wide] at h), ?_⟩
  · rw [← hW1]; exact run_enterLoop_inner hl₀ _ _ _ _ _
  · simp only [resolve, hg]
    simp [go_sem]
  · simp [invoke, go_sem, eg]
  · refine CallsIn.inRound l₀ (callsIn_wide.2 ((coreM (B := w.heap.size) hseq (hb.trans (hbw.mono hb.size)) hL1 (Nat.le_refl _) hn hps I Ix hI hIx
      (fun m => hI m _ _ _ (h0 m) (.of_below hbw)) Ax hAx (fun m pre x W K hm hm2 hi hK => hassign _ m pre x W K (Nat.le_trans hbw.size hm) hm2 hi hK)
      (fun m pre x a' W hm hm2 hr hi hax hp => hbody _ m pre x a' W (Nat.le_trans hbw.size hm) hm2 (Nat.le_refl _) hr hi hax hp)).mono ?_))
    rintro e W2 ⟨⟨v, rfl⟩, jump, W3, hr, (⟨rfl, m, xs, hS, hi⟩ | ⟨c, m, pre, rfl, hp, hi⟩)⟩
    · exact ⟨none, W3, hr, hdone m xs W3 hS hi⟩
    · exact ⟨some c, W3, hr, hstop c m pre W3 hp hi⟩
end core


section
variable {α γ : Type} {P : Program} {n : Nat} {D : List Deferred} {M : Slots}
theorem RowL.own {B g e : Nat} {xs : List Value} : OwnFrom B (fun (_ : Unit) W => RowL W g e xs) := fun _ W W' row h hg hr => by
  have hlt := h.lt
  have h' : W.heap[g]? = some (.cells xs.toArray e (0, 0)) := h
  refine h.same (hg.block g hlt ?_)
  have key : row ≠ some g := fun e => by
    obtain ⟨_, o, ho, hc⟩ := hr g e
    rw [h'] at ho
    cases ho
    cases hc
  first
    | exact key
    | exact fun e => key e.symm
theorem RowL.abides {β : Type} {B m g e : Nat} (hb : g < B) (f : β → List Value) : Abides B m (fun s W => RowL W g e (f s)) := fun s W W' hs ht => ht.same g _ hs (.inl hb)
/-- A range over a function, outermost, of which a round may break at most. -/
theorem CC.rangeM {id gf : Nat} {Dk : Nat → Prop} {g : Operand} {ps : Array Tmp} {assign body : Code} {Q : Exit → Act → World → Prop} {w w0 : World} {lb : List Value} {encs : α → List Value} {S : List α → Prop}
    (hg : evM M g = some (.func (.func gf) #[] lb.toArray)) (eg : entB P gf = true) (hseq : GivesM P gf lb.toArray (fun x => (encs x).toArray) Dk S w0) (hb : Below w0.heap.size w0 w) (hn : ∀ k, Dk k → k < w.heap.size) (hps : ∀ x, (encs x).length = ps.size) (hpn : (ps.toList.all fun p => Nat.blt p n) = true)
    (I Ix : Nat → List α → World → Prop) (A : World → Prop) (hI : ∀ m, Abides w.heap.size m (I m)) (hIx : ∀ m, Abides w.heap.size m (Ix m)) (h0 : ∀ m, I m [] w) (hIA : ∀ m xs W, S xs → I m xs W → A W) (hIxA : ∀ m pre W, Part S pre → Ix m pre W → A W)
    (Mx : α → γ → Slots) (Ax : α → γ → World → Prop) (hAx : ∀ x c, OwnFrom w.heap.size (fun (_ : Unit) W => Ax x c W))
    (hassign : ∀ (l m : Nat) pre x W (K : Act → World → Prop), w.heap.size ≤ m → m ≤ W.heap.size → I m pre W → (∀ a' W' c, Stays w.heap.size m W W' → Keeps Dk W W' → I m pre W' → Fr n [] (Mx x c) a' → Ax x c W' → K a' W') → CC (some l) P (Exit.then K (fun _ _ _ => False)) n [] (psM M ps.toList (encs x)) assign W)
    (hbody : ∀ (l m : Nat) pre x c W, w.heap.size ≤ m → m ≤ W.heap.size → w.heap.size ≤ l → (∃ r, W.heap[l]? = some (.loop r)) → I m pre W → Ax x c W → Part S (pre ++ [x]) → CC (some l) P (roundP w.heap.size m Dk I (fun c m pre W => c = .exit id ∧ Ix m pre W) (pre ++ [x]) W) n [] (Mx x c) body W)
    (hafter : ∀ (E : Nat) W, w.heap.size ≤ E → A W → W.heap[E]? = some (.deferred (some [])) → EE Q n (mark E :: D) M .normal W) :
    CC none P (Exit.inBlock id Q) n D M (.rangeFunc g ps assign body) w := CC.mk fun a F => by
  refine rangeM_break (gf := gf) (lb := lb.toArray) (F.ev hg) (ent_of eg) hseq hb hn (fun x => by simpa using hps x) I Ix A hI hIx h0 (fun x a' W => ∃ c, Fr n [] (Mx x c) a' ∧ Ax x c W) (fun x a' _ W W' row hs hg hr => by
    obtain ⟨c, hF, hc⟩ := hs
    exact ⟨c, hF, hAx x c () W W' row hc hg hr⟩) hIA hIxA ?_ ?_ ?_
  · intro l m pre x W K hm hm2 hi hK
    refine (hassign l m pre x W K hm hm2 hi fun a' W' c h1 h2 h3 h4 h5 => hK a' W' h1 h2 h3 ⟨c, h4, h5⟩).h _ ?_
    have F0 : Fr n [] M ⟨a.tmps, []⟩ := ⟨F.size, rfl, F.get⟩
    have := psM_fr ps.toList (encs x) M a.tmps [] F0 hpn
    have e : (ps.zip (encs x).toArray).foldl (fun t (p, v) => t.setIfInBounds p v) a.tmps = (ps.toList.zip (encs x)).foldl (fun t (p, v) => t.setIfInBounds p v) a.tmps := by
      obtain ⟨l⟩ := ps
      rw [← Array.foldl_toList]
      simp
    rw [e]
    exact this
  · intro l m pre x a' W hm hm2 hl hr hi hax hp
    obtain ⟨c, hF, hc⟩ := hax
    exact (hbody l m pre x c W hm hm2 hl hr hi hc hp).h a' hF
  · intro E W hE hA hd
    exact (hafter E W hE hA hd).h _ ⟨F.size, by rw [F.defers]; rfl, F.get⟩
/-- A scope without a goto. -/
theorem CC.straight {Q : Exit → Act → World → Prop} {c : Code} {w : World} (h : CC none P (Exit.noGoto Q) n D M c w) : CC none P Q n D M (.scope c) w := CC.mk fun a F => (wpIn_wide (n := 3)).2 (wp_scope_straight ((wpIn_wide (n := 3)).1 (h.h a F)))
theorem EE.noN {Q : Exit → Act → World → Prop} {w : World} (h : EE Q n D M .normal w) : EE (Exit.noGoto Q) n D M .normal w := EE.mk fun a F => h.h a F
theorem EE.noR {Q : Exit → Act → World → Prop} {w : World} (h : EE Q n D M .ret w) : EE (Exit.noGoto Q) n D M .ret w := EE.mk fun a F => h.h a F
theorem EE.noX {Q : Exit → Act → World → Prop} {w : World} {i : Nat} (h : EE Q n D M (.exit i) w) : EE (Exit.noGoto Q) n D M (.exit i) w := EE.mk fun a F => h.h a F
end
end Go.Proofs.Ytcmgpfahpmkeoaa

/- Ranges over functions, once more: what an iterator lays is a set of blocks, which may grow from round to round (a variable of a round that it reads behind the yield, too). -/
namespace Go.Proofs.Ytcmgpfahpmkeoaa
set_option linter.unusedVariables false
set_option linter.unusedSimpArgs false
open Go.RowKit Go.Shelf

/-- What a round keeps for the iterator: of the blocks from B on those that the iterator laid, and all that hold no cells. -/
structure StaysZ (B : Nat) (m : Nat → Prop) (W W' : World) : Prop where
  size : W.heap.size ≤ W'.heap.size
  same : ∀ (k : Nat) (o : Obj), B ≤ k → W.heap[k]? = some o → (m k ∨ o.isCells = false) → W'.heap[k]? = some o
/-- What an iterator's own steps may turn: no more than that. -/
structure TurnsZ (B : Nat) (m : Nat → Prop) (W W' : World) : Prop where
  os : W'.os = W.os
  tape : W'.tape = W.tape
  output : W'.output = W.output
  size : W.heap.size ≤ W'.heap.size
  same : ∀ (k : Nat) (o : Obj), W.heap[k]? = some o → (k < B ∨ (¬ m k ∧ o.isCells = true)) → W'.heap[k]? = some o
/-- What the iterator does leaves it; what it lays since may be its own. -/
def AbidesZ {β : Type} (B : Nat) (J : (Nat → Prop) → β → World → Prop) : Prop := ∀ m m' s W W', J m s W → TurnsZ B m W W' → (∀ k, m' k → m k ∨ W.heap.size ≤ k) → J m' s W'
section small
variable {B B' n : Nat} {m : Nat → Prop} {W W' X Y : World}
theorem StaysZ.refl (B : Nat) (m : Nat → Prop) (W : World) : StaysZ B m W W := ⟨Nat.le_refl _, fun _ _ _ h _ => h⟩
theorem StaysZ.trans (h : StaysZ B m X W) (k : StaysZ B m W Y) : StaysZ B m X Y := ⟨Nat.le_trans h.size k.size, fun i o hb ho hc => k.same i o hb (h.same i o hb ho hc) hc⟩
theorem StaysZ.mono (h : StaysZ B m X W) (hb : B ≤ B') : StaysZ B' m X W := ⟨h.size, fun k o hk => h.same k o (Nat.le_trans hb hk)⟩
theorem StaysZ.of_below (h : Below W.heap.size W W') : StaysZ B m W W' :=
  ⟨h.size, fun k _ _ hk _ => (h.block k (Array.getElem?_eq_some_iff.1 hk).1).trans hk⟩
theorem StaysZ.record {l : Nat} {r : Loop} (h : StaysZ B m X W) (hb : B ≤ l) (hl : X.heap[l]? = some (.loop r)) : W.heap[l]? = some (.loop r) := h.same l _ hb hl (.inr rfl)
theorem StaysZ.turn {l : Nat} {o : Obj} (hb : l < B) : StaysZ B m W (W.putObj l o) :=
  ⟨by simp, fun k _ hk hx _ => (World.putObj_heap_other (by omega)).trans hx⟩
/-- A write into a block that lies ahead of B. -/
theorem StaysZ.of_grown {b : Nat} {W W' : World} (h : W.grownBy W' (some b)) (hb : b < B) : StaysZ B m W W' :=
  ⟨h.size, fun k o hk ho _ => (h.block k (Array.getElem?_eq_some_iff.1 ho).1 (by simp; omega)).trans ho⟩
theorem StaysZ.row {g e : Nat} {xs : List Value} (h : StaysZ B m W W') (hr : RowL W g e xs) (hb : B ≤ g) (hm : m g) : RowL W' g e xs := h.same g _ hb hr (.inl hm)
theorem TurnsZ.refl (B : Nat) (m : Nat → Prop) (W : World) : TurnsZ B m W W := ⟨rfl, rfl, rfl, Nat.le_refl _, fun _ _ h _ => h⟩
theorem TurnsZ.trans (h : TurnsZ B m X W) (k : TurnsZ B m W Y) : TurnsZ B m X Y :=
  ⟨k.os.trans h.os, k.tape.trans h.tape, k.output.trans h.output, Nat.le_trans h.size k.size, fun i o ho hc => k.same i o (h.same i o ho hc) hc⟩
theorem TurnsZ.mono (h : TurnsZ B' m X W) (hb : B ≤ B') : TurnsZ B m X W := ⟨h.os, h.tape, h.output, h.size, fun k o hk hc => h.same k o hk (hc.imp (fun h => by omega) id)⟩
theorem TurnsZ.of_below (h : Below W.heap.size W W') : TurnsZ B m W W' :=
  ⟨h.os, h.tape, h.output, h.size, fun k _ hk _ => (h.block k (Array.getElem?_eq_some_iff.1 hk).1).trans hk⟩
theorem TurnsZ.putObj (h : TurnsZ B m X W) {l : Nat} {o : Obj} (o' : Obj) (hb : B ≤ l) (hl : W.heap[l]? = some o) (ho : o.isCells = false) : TurnsZ B m X (W.putObj l o') :=
  h.trans ⟨rfl, rfl, rfl, by simp, fun k x hk hc => by
    refine (World.putObj_heap_other (fun e => ?_)).trans hk
    subst e; rw [hl] at hk; cases hk; rcases hc with hc | ⟨_, hc⟩
    · omega
    · rw [ho] at hc; cases hc⟩
theorem TurnsZ.row {g e : Nat} {xs : List Value} (h : TurnsZ B m W W') (hr : RowL W g e xs) (hb : g < B ∨ ¬ m g) : RowL W' g e xs := h.same g _ hr (hb.imp_right fun h => ⟨h, rfl⟩)
theorem TurnsZ.below (h : TurnsZ B m W W') (hn : n ≤ B) (hs : n ≤ W.heap.size) : Below n W W' := ⟨h.os, h.tape, h.output, h.size, fun k hk => by
  have hlt : k < W.heap.size := by omega
  have ho := Array.getElem?_eq_getElem hlt
  exact (h.same k _ ho (.inl (by omega))).trans ho.symm⟩
theorem AbidesZ.putObj {β : Type} {I : (Nat → Prop) → β → World → Prop} (h : AbidesZ B I) {s : β} {l : Nat} {o : Obj} (o' : Obj) (hs : I m s W) (hb : B ≤ l) (hl : W.heap[l]? = some o) (ho : o.isCells = false) : I m s (W.putObj l o') :=
  h m m s W _ hs ((TurnsZ.refl _ _ _).putObj o' hb hl ho) (fun _ hk => .inl hk)
end small
/-- HOW THE BODY OF A ROUND MAY BE LEFT. -/
def roundPZ {α : Type} (B : Nat) (m : Nat → Prop) (D : Nat → Prop) (I : (Nat → Prop) → List α → World → Prop) (Ix : Code → (Nat → Prop) → List α → World → Prop) (xs : List α) (W : World) : Exit → Act → World → Prop
  | .normal, _, W' => StaysZ B m W W' ∧ Keeps D W W' ∧ I m xs W'
  | .ret, _, W' => StaysZ B m W W' ∧ Ix .ret m xs W'
  | .exit id, _, W' => StaysZ B m W W' ∧ Ix (.exit id) m xs W'
  | .goto t, _, W' => StaysZ B m W W' ∧ Ix (.goto t) m xs W'
  | .panic _, _, _ => False
  | .outgrown, _, _ => False

/-- WHAT AN ITERATOR'S VALUE GIVES: one of the lists of S, or a beginning of one, where a round has said 'no more'. -/
def GivesZ {α : Type} (P : Program) (g : Nat) (lb : Array Value) (encs : α → Array Value) (D : Nat → Prop) (S : List α → Prop) (w : World) : Prop :=
  ∀ (l : Nat) (J Jx : (Nat → Prop) → List α → World → Prop) (W : World), Below w.heap.size w W → (AbidesZ W.heap.size J) → (AbidesZ W.heap.size Jx) →
    (∀ m pre x W1, (∀ k, m k → W.heap.size ≤ k ∧ k < W1.heap.size) → J m pre W1 → Part S (pre ++ [x]) → YieldAt Fence.wide 3 P l (encs x) W1 fun e W' =>
      StaysZ W.heap.size m W1 W' ∧ ((e = .returned (.bool true) ∧ J m (pre ++ [x]) W' ∧ Keeps D W1 W') ∨ (e = .returned (.bool false) ∧ Jx m (pre ++ [x]) W'))) →
    (J (fun _ => False) [] W) →
    Calls P g (#[.func (.yield l) #[] #[]] ++ lb) W fun e W' => (∃ v, e = .returned v) ∧ ((∃ m xs, S xs ∧ J m xs W') ∨ (∃ m pre, Part S pre ∧ Jx m pre W'))

theorem GivesZ.later {α : Type} {P : Program} {g : Nat} {lb : Array Value} {encs : α → Array Value} {D : Nat → Prop} {S : List α → Prop} {w w' : World}
    (h : GivesZ P g lb encs D S w) (hb : Below w.heap.size w w') : GivesZ P g lb encs D S w' :=
  fun l J Jx W hW hJ hJx hY h0 => h l J Jx W (hb.trans (hW.mono hb.size)) hJ hJx hY h0

section core
variable {α : Type} {P : Program}

theorem coreZ {l B d gf : Nat} {D : Nat → Prop} {fn : FuncId} {tm : Array Value} {ps : Array Tmp} {assign body : Code} {lb : Array Value} {encs : α → Array Value} {S : List α → Prop} {w0 W1 : World}
    (hseq : GivesZ P gf lb encs D S w0) (hb : Below w0.heap.size w0 W1)
    (hl : W1.heap[l]? = some (.loop { state := .ready, pending := none, fn, tmps := tm, params := ps, assign, body, defers := d }))
    (hBl : B ≤ l) (hn : ∀ k, D k → k < l) (hps : ∀ x, (encs x).size = ps.size)
    (I : (Nat → Prop) → List α → World → Prop) (Ix : Code → (Nat → Prop) → List α → World → Prop) (hI : AbidesZ B I) (hIx : ∀ c, AbidesZ B (Ix c)) (h0 : I (fun _ => False) [] W1)
    (Ax : α → Act → World → Prop) (hAx : ∀ x a', OwnFrom B (fun (_ : Unit) W => Ax x a' W))
    (hassign : ∀ m pre x W (K : Act → World → Prop), (∀ k, m k → W1.heap.size ≤ k ∧ k < W.heap.size) → I m pre W → (∀ a' W', StaysZ B m W W' → Keeps D W W' → I m pre W' → Ax x a' W' → K a' W') →
      assign.wpIn (Fence.wide.inRound l) 3 P (Exit.then K (fun _ _ _ => False)) { tmps := (ps.zip (encs x)).foldl (fun t (p, v) => t.setIfInBounds p v) tm, defers := [] } W)
    (hbody : ∀ m pre x a' W, (∀ k, m k → W1.heap.size ≤ k ∧ k < W.heap.size) → (∃ r, W.heap[l]? = some (.loop r)) → I m pre W → Ax x a' W → Part S (pre ++ [x]) →
      body.wpIn (Fence.wide.inRound l) 3 P (roundPZ B m D I Ix (pre ++ [x]) W) a' W) :
    Calls P gf (#[.func (.yield l) #[] #[]] ++ lb) W1 (fun e W2 => (∃ v, e = .returned v) ∧ ∃ jump W3, (Instr.endLoop l).run P W2 = .ok jump W3 ∧
      ((jump = none ∧ ∃ m xs, S xs ∧ I m xs W3) ∨ (∃ c m pre, jump = some c ∧ Part S pre ∧ Ix c m pre W3))) := by
  have hlt1 : l < W1.heap.size := (Array.getElem?_eq_some_iff.1 hl).1
  obtain ⟨rec, hrec⟩ : ∃ rec : LoopState → Option Code → Loop, rec = fun st pe => { state := st, pending := pe, fn, tmps := tm, params := ps, assign, body, defers := d } := ⟨_, rfl⟩
  have hl1 : W1.heap[l]? = some (.loop (rec .ready none)) := by rw [hrec]; exact hl
  refine (hseq l (fun m pre W => I m pre W ∧ W.heap[l]? = some (.loop (rec .ready none)))
    (fun m pre W => ∃ c, Ix c m pre W ∧ W.heap[l]? = some (.loop (rec .done (some c)))) W1 hb
    (fun m m' s X Y hs ht hg => ⟨hI m m' s X Y hs.1 (ht.mono (by omega)) hg, ht.same l _ hs.2 (.inl hlt1)⟩)
    (fun m m' s X Y hs ht hg => by obtain ⟨c, hc, hx⟩ := hs; exact ⟨c, hIx c m m' s X Y hc (ht.mono (by omega)) hg, ht.same l _ hx (.inl hlt1)⟩)
    ?_ ⟨h0, hl1⟩).mono ?_
  · rintro m pre x W hm ⟨hi, hlw⟩ hpart
    have hy := run_yield (P := P) (args := encs x) hlw (by rw [hrec]; exact hps x)
    rw [hrec] at hy
    refine ⟨fn, _, assign, body, hy, roundIn_of_wpIn trivial (hassign m pre x W _ hm hi ?_)⟩
    intro a' Wa hst hbe hia hax
    have hla := hst.record hBl hlw
    have hlta : l < Wa.heap.size := (Array.getElem?_eq_some_iff.1 hla).1
    obtain ⟨Wb, hWb⟩ : ∃ Wb, Wa.putObj l (.loop { rec .ready none with state := .busy }) = Wb := ⟨_, rfl⟩
    refine ⟨Wb, by rw [← hWb]; exact run_beginRound hla (by rw [hrec]), ?_⟩
    have hlb : Wb.heap[l]? = some (.loop { rec .ready none with state := .busy }) := by rw [← hWb]; exact World.putObj_heap_same hlta
    have hib : I m pre Wb := by rw [← hWb]; exact hI.putObj _ hia hBl hla rfl
    have haxb : Ax x a' Wb := by rw [← hWb]; exact (hAx x a').putObj (s := ()) _ hax hBl hla rfl
    have hsb : StaysZ W1.heap.size m W Wb := by rw [← hWb]; exact (hst.mono (by omega)).trans (.turn hlt1)
    have hDl : ¬ D l := fun h => Nat.lt_irrefl _ (hn l h)
    have hbb : Keeps D W Wb := by rw [← hWb]; exact hbe.putObj hDl _
    refine wpIn_mono (hbody m pre x a' Wb (fun k hk => ⟨(hm k hk).1, Nat.lt_of_lt_of_le (hm k hk).2 hsb.size⟩) ⟨_, hlb⟩ hib haxb hpart) ?_
    have fin : ∀ (jump : Option Code) (W3 : World), StaysZ B m Wb W3 → ∃ W4, W4 = W3.putObj l (.loop (rec (if jump.isNone then .ready else .done) jump)) ∧
        (Instr.endRound l jump).run P W3 = .ok (.bool jump.isNone) W4 ∧ W4.heap[l]? = some (.loop (rec (if jump.isNone then .ready else .done) jump)) ∧
        W3.heap[l]? = some (.loop { rec .ready none with state := .busy }) ∧ StaysZ W1.heap.size m W W4 := fun jump W3 hs3 => by
      have hl3 := hs3.record hBl hlb
      have hr := run_endRound (P := P) jump hl3
      rw [hrec] at hr ⊢
      refine ⟨_, rfl, hr, World.putObj_heap_same (Array.getElem?_eq_some_iff.1 hl3).1, by rw [hrec] at hl3; exact hl3, ?_⟩
      exact (hsb.trans (hs3.mono (by omega))).trans (.turn hlt1)
    rintro e a3 W3 hp
    cases e with
    | normal =>
      obtain ⟨hs3, hb3, hi3⟩ := hp
      obtain ⟨W4, e4, hr, hl4, hl3, hs4⟩ := fin none W3 hs3
      refine ⟨_, W4, hr, hs4, .inl ⟨rfl, ⟨?_, hl4⟩, ?_⟩⟩
      · rw [e4]; exact hI.putObj _ hi3 hBl hl3 rfl
      · rw [e4]; exact (hbb.trans hb3).putObj hDl _
    | ret =>
      obtain ⟨hs3, hi3⟩ := hp
      obtain ⟨W4, e4, hr, hl4, hl3, hs4⟩ := fin (some .ret) W3 hs3
      exact ⟨_, W4, hr, hs4, .inr ⟨rfl, .ret, by rw [e4]; exact (hIx _).putObj _ hi3 hBl hl3 rfl, hl4⟩⟩
    | exit id =>
      obtain ⟨hs3, hi3⟩ := hp
      obtain ⟨W4, e4, hr, hl4, hl3, hs4⟩ := fin (some (.exit id)) W3 hs3
      exact ⟨_, W4, hr, hs4, .inr ⟨rfl, .exit id, by rw [e4]; exact (hIx _).putObj _ hi3 hBl hl3 rfl, hl4⟩⟩
    | goto t =>
      obtain ⟨hs3, hi3⟩ := hp
      obtain ⟨W4, e4, hr, hl4, hl3, hs4⟩ := fin (some (.goto t)) W3 hs3
      exact ⟨_, W4, hr, hs4, .inr ⟨rfl, .goto t, by rw [e4]; exact (hIx _).putObj _ hi3 hBl hl3 rfl, hl4⟩⟩
    | panic ch => exact hp.elim
    | outgrown => exact hp.elim
  · rintro e W2 ⟨hv, (⟨m, xs, hS, hi, hlw⟩ | ⟨m, pre, hp, c, hi, hlw⟩)⟩
    · have hr := run_endLoop (P := P) hlw (by rw [hrec]; simp)
      refine ⟨hv, _, _, hr, .inl ⟨by rw [hrec], m, xs, hS, hI.putObj _ hi hBl hlw rfl⟩⟩
    · have hr := run_endLoop (P := P) hlw (by rw [hrec]; simp)
      refine ⟨hv, _, _, hr, .inr ⟨c, m, pre, by rw [hrec], hp, (hIx c).putObj _ hi hBl hlw rfl⟩⟩

/-- THE STATEMENT, OUTERMOST. D is the block of the rounds' deferred calls: at the function's return it is taken once more. -/
theorem rangeZ_out {gf : Nat} {D : Nat → Prop} {g : Operand} {ps : Array Tmp} {assign body : Code} {Q : Exit → Act → World → Prop} {a : Act} {w w0 : World} {lb : Array Value} {encs : α → Array Value} {S : List α → Prop}
    (hg : a.eval g = .func (.func gf) #[] lb) (eg : ∀ args w, (callFunc gf args).run P w = .ok (.enter gf args) w)
    (hseq : GivesZ P gf lb encs D S w0) (hb : Below w0.heap.size w0 w) (hn : ∀ k, D k → k < w.heap.size) (hps : ∀ x, (encs x).size = ps.size)
    (I : (Nat → Prop) → List α → World → Prop) (Ix : Code → (Nat → Prop) → List α → World → Prop) (hI : AbidesZ w.heap.size I) (hIx : ∀ c, AbidesZ w.heap.size (Ix c)) (h0 : I (fun _ => False) [] w)
    (Ax : α → Act → World → Prop) (hAx : ∀ x a', OwnFrom w.heap.size (fun (_ : Unit) W => Ax x a' W))
    (hassign : ∀ (l : Nat) (m : Nat → Prop) pre x W (K : Act → World → Prop), (∀ k, m k → w.heap.size ≤ k ∧ k < W.heap.size) → I m pre W → (∀ a' W', StaysZ w.heap.size m W W' → Keeps D W W' → I m pre W' → Ax x a' W' → K a' W') →
      assign.wpIn (Fence.wide.inRound l) 3 P (Exit.then K (fun _ _ _ => False)) { tmps := (ps.zip (encs x)).foldl (fun t (p, v) => t.setIfInBounds p v) a.tmps, defers := [] } W)
    (hbody : ∀ (l : Nat) (m : Nat → Prop) pre x a' W, (∀ k, m k → w.heap.size ≤ k ∧ k < W.heap.size) → w.heap.size ≤ l → (∃ r, W.heap[l]? = some (.loop r)) → I m pre W → Ax x a' W → Part S (pre ++ [x]) →
      body.wpIn (Fence.wide.inRound l) 3 P (roundPZ w.heap.size m D I Ix (pre ++ [x]) W) a' W)
    (hdone : ∀ (E : Nat) (m : Nat → Prop) xs W, w.heap.size ≤ E → S xs → I m xs W → W.heap[E]? = some (.deferred (some [])) → Q .normal { a with defers := { target := .collected E, args := #[] } :: a.defers } W)
    (hstop : ∀ (E : Nat) (c : Code) (m : Nat → Prop) pre W, w.heap.size ≤ E → Part S pre → Ix c m pre W → W.heap[E]? = some (.deferred (some [])) →
      c.wpIn Fence.wide 3 P Q { a with defers := { target := .collected E, args := #[] } :: a.defers } W) :
    (Code.rangeFunc g ps assign body).wpIn Fence.wide 3 P Q a w := by
  refine wpIn_rangeFunc ?_
  intro fn hfn
  obtain ⟨W1, hW1⟩ : ∃ W1, (w.alloc (.deferred (some []))).alloc (.loop { state := .ready, pending := none, fn, tmps := a.tmps, params := ps, assign, body, defers := w.heap.size }) = W1 := ⟨_, rfl⟩
  have hL1 : W1.heap[w.heap.size + 1]? = some (.loop { state := .ready, pending := none, fn, tmps := a.tmps, params := ps, assign, body, defers := w.heap.size }) := by
    rw [← hW1]; have := World.alloc_heap_new (w.alloc (.deferred (some []))) (.loop { state := .ready, pending := none, fn, tmps := a.tmps, params := ps, assign, body, defers := w.heap.size }); rwa [World.size_alloc] at this
  have hK1 : W1.heap[w.heap.size]? = some (.deferred (some [])) := by
    rw [← hW1]; exact (Below.heap_alloc _ _ _ (by simp)).trans (World.alloc_heap_new w _)
  have hbw : Below w.heap.size w W1 := by rw [← hW1]; exact ((Below.refl _ w).alloc (Nat.le_refl _) _).alloc (by simp) _
  refine ⟨w.heap.size + 1, [{ target := .collected w.heap.size, args := #[] }], W1, { target := .fn (.func gf) lb, args := #[.func (.yield (w.heap.size + 1)) #[] #[]] }, W1, gf,
    #[.func (.yield (w.heap.size + 1)) #[] #[]] ++ lb, W1, ?_, ?_, fun _ _ => trivial, ?_, fun h => (by simp [Fence.wide] at h), ?_⟩
  · rw [← hW1]; exact run_enterLoop_outer _ _ _ _ _
  · simp only [resolve, hg]
    simp [go_sem]
  · simp [invoke, go_sem, eg]
  · refine callsIn_wide.2 ((coreZ (B := w.heap.size + 1) hseq (hb.trans (hbw.mono hb.size)) hL1 (Nat.le_refl _) (fun k hk => Nat.lt_succ_of_lt (hn k hk)) hps
      (fun m pre W => I m pre W ∧ W.heap[w.heap.size]? = some (.deferred (some []))) (fun c m pre W => Ix c m pre W ∧ W.heap[w.heap.size]? = some (.deferred (some [])))
      (fun m m' s X Y hs ht hg => ⟨hI m m' s X Y hs.1 (ht.mono (by omega)) hg, ht.same _ _ hs.2 (.inl (by omega))⟩)
      (fun c m m' s X Y hs ht hg => ⟨hIx c m m' s X Y hs.1 (ht.mono (by omega)) hg, ht.same _ _ hs.2 (.inl (by omega))⟩)
      ⟨hI _ _ _ _ _ h0 (.of_below hbw) (fun k hk => hk.elim), hK1⟩ Ax (fun x a' s X Y row hs hg' hr => hAx x a' s X Y row hs hg' (fun r e => ⟨by have := (hr r e).1; omega, (hr r e).2⟩))
      (fun m pre x W K hm hi hK => hassign _ m pre x W K (fun k hk => ⟨Nat.le_trans hbw.size (hm k hk).1, (hm k hk).2⟩) hi.1 (fun a' W' hs hbe hi' hax => hK a' W' (hs.mono (by omega)) hbe ⟨hi', hs.same _ _ (Nat.le_refl _) hi.2 (.inr rfl)⟩ hax))
      (fun m pre x a' W hm hr hi hax hp => wpIn_mono (hbody _ m pre x a' W (fun k hk => ⟨Nat.le_trans hbw.size (hm k hk).1, (hm k hk).2⟩) (by omega) hr hi.1 hax hp) ?_)).mono ?_)
    · intro e a3 W3 h3
      have hD : ∀ {W' : World}, StaysZ w.heap.size m W W' → W'.heap[w.heap.size]? = some (.deferred (some [])) := fun hs => hs.same _ _ (Nat.le_refl _) hi.2 (.inr rfl)
      cases e with
      | normal => exact ⟨h3.1.mono (by omega), h3.2.1, h3.2.2, hD h3.1⟩
      | ret => exact ⟨h3.1.mono (by omega), h3.2, hD h3.1⟩
      | exit id => exact ⟨h3.1.mono (by omega), h3.2, hD h3.1⟩
      | goto t => exact ⟨h3.1.mono (by omega), h3.2, hD h3.1⟩
      | panic ch => exact h3
      | outgrown => exact h3
    · rintro e W2 ⟨⟨v, rfl⟩, jump, W3, hr, (⟨rfl, m, xs, hS, hi, hD⟩ | ⟨c, m, pre, rfl, hp, hi, hD⟩)⟩
      · exact ⟨none, W3, hr, hdone _ m xs W3 (Nat.le_refl _) hS hi hD⟩
      · exact ⟨some c, W3, hr, hstop _ c m pre W3 (Nat.le_refl _) hp hi hD⟩

/-- THE STATEMENT, OUTERMOST, WHERE A ROUND LEAVES BY 'break' AT MOST. -/
theorem rangeZ_break {id gf : Nat} {D : Nat → Prop} {g : Operand} {ps : Array Tmp} {assign body : Code} {Q : Exit → Act → World → Prop} {a : Act} {w w0 : World} {lb : Array Value} {encs : α → Array Value} {S : List α → Prop}
    (hg : a.eval g = .func (.func gf) #[] lb) (eg : ∀ args w, (callFunc gf args).run P w = .ok (.enter gf args) w)
    (hseq : GivesZ P gf lb encs D S w0) (hb : Below w0.heap.size w0 w) (hn : ∀ k, D k → k < w.heap.size) (hps : ∀ x, (encs x).size = ps.size)
    (I Ix : (Nat → Prop) → List α → World → Prop) (A : World → Prop) (hI : AbidesZ w.heap.size I) (hIx : AbidesZ w.heap.size Ix) (h0 : I (fun _ => False) [] w)
    (Ax : α → Act → World → Prop) (hAx : ∀ x a', OwnFrom w.heap.size (fun (_ : Unit) W => Ax x a' W))
    (hIA : ∀ m xs W, S xs → I m xs W → A W) (hIxA : ∀ m pre W, Part S pre → Ix m pre W → A W)
    (hassign : ∀ (l : Nat) (m : Nat → Prop) pre x W (K : Act → World → Prop), (∀ k, m k → w.heap.size ≤ k ∧ k < W.heap.size) → I m pre W → (∀ a' W', StaysZ w.heap.size m W W' → Keeps D W W' → I m pre W' → Ax x a' W' → K a' W') →
      assign.wpIn (Fence.wide.inRound l) 3 P (Exit.then K (fun _ _ _ => False)) { tmps := (ps.zip (encs x)).foldl (fun t (p, v) => t.setIfInBounds p v) a.tmps, defers := [] } W)
    (hbody : ∀ (l : Nat) (m : Nat → Prop) pre x a' W, (∀ k, m k → w.heap.size ≤ k ∧ k < W.heap.size) → w.heap.size ≤ l → (∃ r, W.heap[l]? = some (.loop r)) → I m pre W → Ax x a' W → Part S (pre ++ [x]) →
      body.wpIn (Fence.wide.inRound l) 3 P (roundPZ w.heap.size m D I (fun c m pre W => c = .exit id ∧ Ix m pre W) (pre ++ [x]) W) a' W)
    (hafter : ∀ (E : Nat) W, w.heap.size ≤ E → A W → W.heap[E]? = some (.deferred (some [])) → Q .normal { a with defers := { target := .collected E, args := #[] } :: a.defers } W) :
    (Code.rangeFunc g ps assign body).wpIn Fence.wide 3 P (Exit.inBlock id Q) a w :=
  rangeZ_out hg eg hseq hb hn hps I (fun c m pre W => c = .exit id ∧ Ix m pre W) hI (fun c m m' s W W' hs ht hg => ⟨hs.1, hIx m m' s W W' hs.2 ht hg⟩) h0 Ax hAx hassign hbody
    (fun E m xs W hE hS hi hK => hafter E W hE (hIA m xs W hS hi) hK)
    (fun E c m pre W hE hp hi hK => by
      obtain ⟨rfl, hi⟩ := hi
      refine wpIn_exit ?_
      have := hafter E W hE (hIxA m pre W hp hi) hK
      simpa [Exit.inBlock] using this)

/-- THE STATEMENT IN A ROUND OF LOOP l₀. -/
theorem rangeZ_in {l₀ gf : Nat} {D : Nat → Prop} {r₀ : Loop} {g : Operand} {ps : Array Tmp} {assign body : Code} {Q : Exit → Act → World → Prop} {a : Act} {w w0 : World} {lb : Array Value} {encs : α → Array Value} {S : List α → Prop}
    (hl₀ : w.heap[l₀]? = some (.loop r₀)) (hg : a.eval g = .func (.func gf) #[] lb) (eg : ∀ args w, (callFunc gf args).run P w = .ok (.enter gf args) w)
    (hseq : GivesZ P gf lb encs D S w0) (hb : Below w0.heap.size w0 w) (hn : ∀ k, D k → k < w.heap.size) (hps : ∀ x, (encs x).size = ps.size)
    (I : (Nat → Prop) → List α → World → Prop) (Ix : Code → (Nat → Prop) → List α → World → Prop) (hI : AbidesZ w.heap.size I) (hIx : ∀ c, AbidesZ w.heap.size (Ix c)) (h0 : I (fun _ => False) [] w)
    (Ax : α → Act → World → Prop) (hAx : ∀ x a', OwnFrom w.heap.size (fun (_ : Unit) W => Ax x a' W))
    (hassign : ∀ (l : Nat) (m : Nat → Prop) pre x W (K : Act → World → Prop), (∀ k, m k → w.heap.size ≤ k ∧ k < W.heap.size) → I m pre W → (∀ a' W', StaysZ w.heap.size m W W' → Keeps D W W' → I m pre W' → Ax x a' W' → K a' W') →
      assign.wpIn (Fence.wide.inRound l) 3 P (Exit.then K (fun _ _ _ => False)) { tmps := (ps.zip (encs x)).foldl (fun t (p, v) => t.setIfInBounds p v) a.tmps, defers := [] } W)
    (hbody : ∀ (l : Nat) (m : Nat → Prop) pre x a' W, (∀ k, m k → w.heap.size ≤ k ∧ k < W.heap.size) → w.heap.size ≤ l → (∃ r, W.heap[l]? = some (.loop r)) → I m pre W → Ax x a' W → Part S (pre ++ [x]) →
      body.wpIn (Fence.wide.inRound l) 3 P (roundPZ w.heap.size m D I Ix (pre ++ [x]) W) a' W)
    (hdone : ∀ (m : Nat → Prop) xs W, S xs → I m xs W → Q .normal a W)
    (hstop : ∀ (c : Code) (m : Nat → Prop) pre W, Part S pre → Ix c m pre W → c.wpIn (Fence.wide.inRound l₀) 3 P Q a W) :
    (Code.rangeFunc g ps assign body).wpIn (Fence.wide.inRound l₀) 3 P Q a w := by
  refine wpIn_rangeFunc ?_
  intro fn hfn
  obtain ⟨W1, hW1⟩ : ∃ W1, w.alloc (.loop { state := .ready, pending := none, fn, tmps := a.tmps, params := ps, assign, body, defers := r₀.defers }) = W1 := ⟨_, rfl⟩
  have hL1 : W1.heap[w.heap.size]? = some (.loop { state := .ready, pending := none, fn, tmps := a.tmps, params := ps, assign, body, defers := r₀.defers }) := by
    rw [← hW1]; exact World.alloc_heap_new w _
  have hbw : Below w.heap.size w W1 := by rw [← hW1]; exact (Below.refl _ w).alloc (Nat.le_refl _) _
  refine ⟨w.heap.size, [], W1, { target := .fn (.func gf) lb, args := #[.func (.yield w.heap.size) #[] #[]] }, W1, gf,
    #[.func (.yield w.heap.size) #[] #[]] ++ lb, W1, ?_, ?_, fun _ _ => trivial, ?_, fun h => (by simp [Fence.wide] at h), ?_⟩
  · rw [← hW1]; exact run_enterLoop_inner hl₀ _ _ _ _ _
  · simp only [resolve, hg]
    simp [go_sem]
  · simp [invoke, go_sem, eg]
  · refine CallsIn.inRound l₀ (callsIn_wide.2 ((coreZ (B := w.heap.size) hseq (hb.trans (hbw.mono hb.size)) hL1 (Nat.le_refl _) hn hps I Ix hI hIx
      (hI _ _ _ _ _ h0 (.of_below hbw) (fun k hk => hk.elim)) Ax hAx (fun m pre x W K hm hi hK => hassign _ m pre x W K (fun k hk => ⟨Nat.le_trans hbw.size (hm k hk).1, (hm k hk).2⟩) hi hK)
      (fun m pre x a' W hm hr hi hax hp => hbody _ m pre x a' W (fun k hk => ⟨Nat.le_trans hbw.size (hm k hk).1, (hm k hk).2⟩) (Nat.le_refl _) hr hi hax hp)).mono ?_))
    rintro e W2 ⟨⟨v, rfl⟩, jump, W3, hr, (⟨rfl, m, xs, hS, hi⟩ | ⟨c, m, pre, rfl, hp, hi⟩)⟩
    · exact ⟨none, W3, hr, hdone m xs W3 hS hi⟩
    · exact ⟨some c, W3, hr, hstop c m pre W3 hp hi⟩
end core


section
variable {α γ : Type} {P : Program} {n : Nat} {D : List Deferred} {M : Slots}
/-- A range over a function, outermost, of which a round may break at most. -/
theorem CC.rangeZ {id gf : Nat} {Dk : Nat → Prop} {g : Operand} {ps : Array Tmp} {assign body : Code} {Q : Exit → Act → World → Prop} {w w0 : World} {lb : List Value} {encs : α → List Value} {S : List α → Prop}
    (hg : evM M g = some (.func (.func gf) #[] lb.toArray)) (eg : entB P gf = true) (hseq : GivesZ P gf lb.toArray (fun x => (encs x).toArray) Dk S w0) (hb : Below w0.heap.size w0 w) (hn : ∀ k, Dk k → k < w.heap.size) (hps : ∀ x, (encs x).length = ps.size) (hpn : (ps.toList.all fun p => Nat.blt p n) = true)
    (I Ix : (Nat → Prop) → List α → World → Prop) (A : World → Prop) (hI : AbidesZ w.heap.size I) (hIx : AbidesZ w.heap.size Ix) (h0 : I (fun _ => False) [] w) (hIA : ∀ m xs W, S xs → I m xs W → A W) (hIxA : ∀ m pre W, Part S pre → Ix m pre W → A W)
    (Mx : α → γ → Slots) (Ax : α → γ → World → Prop) (hAx : ∀ x c, OwnFrom w.heap.size (fun (_ : Unit) W => Ax x c W))
    (hassign : ∀ (l : Nat) (m : Nat → Prop) pre x W (K : Act → World → Prop), (∀ k, m k → w.heap.size ≤ k ∧ k < W.heap.size) → I m pre W → (∀ a' W' c, StaysZ w.heap.size m W W' → Keeps Dk W W' → I m pre W' → Fr n [] (Mx x c) a' → Ax x c W' → K a' W') → CC (some l) P (Exit.then K (fun _ _ _ => False)) n [] (psM M ps.toList (encs x)) assign W)
    (hbody : ∀ (l : Nat) (m : Nat → Prop) pre x c W, (∀ k, m k → w.heap.size ≤ k ∧ k < W.heap.size) → w.heap.size ≤ l → (∃ r, W.heap[l]? = some (.loop r)) → I m pre W → Ax x c W → Part S (pre ++ [x]) → CC (some l) P (roundPZ w.heap.size m Dk I (fun c m pre W => c = .exit id ∧ Ix m pre W) (pre ++ [x]) W) n [] (Mx x c) body W)
    (hafter : ∀ (E : Nat) W, w.heap.size ≤ E → A W → W.heap[E]? = some (.deferred (some [])) → EE Q n (mark E :: D) M .normal W) :
    CC none P (Exit.inBlock id Q) n D M (.rangeFunc g ps assign body) w := CC.mk fun a F => by
  refine rangeZ_break (gf := gf) (lb := lb.toArray) (F.ev hg) (ent_of eg) hseq hb hn (fun x => by simpa using hps x) I Ix A hI hIx h0 (fun x a' W => ∃ c, Fr n [] (Mx x c) a' ∧ Ax x c W) (fun x a' _ W W' row hs hg hr => by
    obtain ⟨c, hF, hc⟩ := hs
    exact ⟨c, hF, hAx x c () W W' row hc hg hr⟩) hIA hIxA ?_ ?_ ?_
  · intro l m pre x W K hm hi hK
    refine (hassign l m pre x W K hm hi fun a' W' c h1 h2 h3 h4 h5 => hK a' W' h1 h2 h3 ⟨c, h4, h5⟩).h _ ?_
    have F0 : Fr n [] M ⟨a.tmps, []⟩ := ⟨F.size, rfl, F.get⟩
    have := psM_fr ps.toList (encs x) M a.tmps [] F0 hpn
    have e : (ps.zip (encs x).toArray).foldl (fun t (p, v) => t.setIfInBounds p v) a.tmps = (ps.toList.zip (encs x)).foldl (fun t (p, v) => t.setIfInBounds p v) a.tmps := by
      obtain ⟨l⟩ := ps
      rw [← Array.foldl_toList]
      simp
    rw [e]
    exact this
  · intro l m pre x a' W hm hl hr hi hax hp
    obtain ⟨c, hF, hc⟩ := hax
    exact (hbody l m pre x c W hm hl hr hi hc hp).h a' hF
  · intro E W hE hA hd
    exact (hafter E W hE hA hd).h _ ⟨F.size, by rw [F.defers]; rfl, F.get⟩
theorem EE.roundNZ {B : Nat} {m : Nat → Prop} {Dk : Nat → Prop} {I : (Nat → Prop) → List α → World → Prop} {Ix : Code → (Nat → Prop) → List α → World → Prop} {xs : List α} {W w : World} (h : StaysZ B m W w ∧ Keeps Dk W w ∧ I m xs w) : EE (roundPZ B m Dk I Ix xs W) n D M .normal w := EE.mk fun _ _ => h
theorem EE.roundXZ {B id : Nat} {m : Nat → Prop} {Dk : Nat → Prop} {I : (Nat → Prop) → List α → World → Prop} {Ix : Code → (Nat → Prop) → List α → World → Prop} {xs : List α} {W w : World} (h : StaysZ B m W w ∧ Ix (.exit id) m xs w) : EE (roundPZ B m Dk I Ix xs W) n D M (.exit id) w := EE.mk fun _ _ => h
theorem EE.roundRZ {B : Nat} {m : Nat → Prop} {Dk : Nat → Prop} {I : (Nat → Prop) → List α → World → Prop} {Ix : Code → (Nat → Prop) → List α → World → Prop} {xs : List α} {W w : World} (h : StaysZ B m W w ∧ Ix .ret m xs w) : EE (roundPZ B m Dk I Ix xs W) n D M .ret w := EE.mk fun _ _ => h
end
end Go.Proofs.Ytcmgpfahpmkeoaa

/- One element is appended to a slice that is full: a new row. Over any program. -/
namespace Go.Proofs.Ytcmgpfahpmkeoaa
set_option linter.unusedVariables false
set_option linter.unusedSimpArgs false
open Go.RowKit

theorem step_full {P : Program} {T e : TypeId} {z : Value} {bytes : Nat} {ops : Array Oper} {o : Oper} {a : Act} {w : World} {K : Act → World → Prop} {Q : Exit → Act → World → Prop} {E : Prop} (I : El P T e z bytes) {s x : Operand}
    (hgd : o.guard = none) (ho : o.op = .call { callee := .builtin .append, args := #[s, x], argTypes := #[T, T] })
    {ao : Option Addr} {n c : Nat} {u : Value} {g : Addr} {xs : List Value} (hs : a.eval s = .slice ao n n) (hx : a.eval x = .slice (some g) 1 c) (hr : Reads w (.slice ao n n) xs) (hnew : w.cell? g = some u) (h1 : u.oneCell' = true)
    (hb : (n + 1) * bytes ≤ 140737488355328) (h63 : n + 1 ≤ maxLen)
    (h : ∀ g cap w', w'.ownsRow w.heap.size e 1 (.slice (some ⟨g, 0, none⟩) (n + 1) cap) (n + 1) (xs ++ [u]) → w.grownBy w' none → K (a.put o.dst (.slice (some ⟨g, 0, none⟩) (n + 1) cap)) w') :
    if Region.wanted o (yielded ops a.tmps) = true then Oper.wp P o a w K Q else E := by
  obtain ⟨i, hi, hz, hsz, hby⟩ := I.info
  have hzs : z.cells.size = 1 := by rw [I.one]; rfl
  obtain ⟨a', cap', e', _, hcells⟩ := hr
  have hxl : xs.length = n := by cases e'; rfl
  have ha : a' = ao := by cases e'; rfl
  subst ha
  refine step_append_grows hgd s x T ho e i z 1 bytes I.under hi hz hsz hby hzs (by decide) a' n n xs hs ?_ (by omega) ?_ g 1 c [u] hx rfl ?_ ?_ (by omega) h63 hb ?_
  · intro hn
    have : xs = [] := by
      cases xs with
      | nil => rfl
      | cons y r =>
        obtain ⟨b, off, hb', _⟩ := hcells (by simp)
        rw [hn] at hb'; cases hb'
    subst this
    simp at hxl
    exact ⟨hxl.symm, hxl.symm⟩
  · intro b hb' j v hj
    have hlt : j < xs.length := by
      rcases Nat.lt_or_ge j xs.length with h | h
      · exact h
      · rw [List.getElem?_eq_none h] at hj; cases hj
    obtain ⟨b2, off, hb2, _, hc⟩ := hcells (by intro h0; rw [h0] at hlt; simp at hlt)
    rw [hb2] at hb'; cases hb'
    rw [Addr.add_lit, hc j hlt, hj]
  · intro j u' hj
    cases j with
    | zero => simp at hj; subst hj; simpa [Addr.add] using hnew
    | succ j => simp at hj
  · intro u' hu; simp at hu; subst hu; exact h1
  · intro v' w' hown hg
    rcases hown.2 with ⟨_, h0⟩ | ⟨g', cap, cur, rfl, _⟩
    · exact absurd h0 (by omega)
    · exact h g' cap w' hown hg

/-- A call of a function, by its contract, as one step of a region that draws its order. -/
theorem step_call1 {P : Program} {ops : Array Oper} {o : Oper} {a : Act} {w : World} {K : Act → World → Prop} {Q : Exit → Act → World → Prop} {E : Prop}
    (hgd : o.guard = none) {f : FuncId} {x : Operand} {ts : Array TypeId} (ho : o.op = .call { callee := .value (.func f), args := #[x], argTypes := ts }) {vx : Value} (hx : a.eval x = vx)
    (eg : ∀ args w, (callFunc f args).run P w = .ok (.enter f args) w) {R : Ending → World → Prop} (hc : Calls P f #[vx] w R) (h : ∀ e w', R e w' → ∃ v, e = .returned v ∧ K (a.put o.dst v) w') :
    if Region.wanted o (yielded ops a.tmps) = true then Oper.wp P o a w K Q else E := by
  have hw : Region.wanted o (yielded ops a.tmps) = true := by simp [Region.wanted, hgd]
  rw [if_pos hw]
  have hf : a.eval (.func f) = .func (.func f) #[] #[] := by simp [Act.eval]
  have hr : (execOp a.eval o).run P w = .ok (.enter f #[vx]) w := by
    unfold execOp
    simp only [ho]
    simp [resolve, invoke, hf, go_sem, eg]
    rw [← hx]; cases x <;> simp [Act.eval]
  unfold Oper.wp
  rw [hr, Oper.upon_enter]
  refine hc.mono ?_
  intro e w' hR
  obtain ⟨v, rfl, hK⟩ := h e w' hR
  exact hK

/-- The same where the operation is guarded, and wanted. -/
theorem step_call1w {P : Program} {ops : Array Oper} {o : Oper} {a : Act} {w : World} {K : Act → World → Prop} {Q : Exit → Act → World → Prop} {E : Prop}
    (hw : Region.wanted o (yielded ops a.tmps) = true) {f : FuncId} {x : Operand} {ts : Array TypeId} (ho : o.op = .call { callee := .value (.func f), args := #[x], argTypes := ts }) {vx : Value} (hx : a.eval x = vx)
    (eg : ∀ args w, (callFunc f args).run P w = .ok (.enter f args) w) {R : Ending → World → Prop} (hc : Calls P f #[vx] w R) (h : ∀ e w', R e w' → ∃ v, e = .returned v ∧ K (a.put o.dst v) w') :
    if Region.wanted o (yielded ops a.tmps) = true then Oper.wp P o a w K Q else E := by
  rw [if_pos hw]
  have hf : a.eval (.func f) = .func (.func f) #[] #[] := by simp [Act.eval]
  have hr : (execOp a.eval o).run P w = .ok (.enter f #[vx]) w := by
    unfold execOp
    simp only [ho]
    simp [resolve, invoke, hf, go_sem, eg]
    rw [← hx]; cases x <;> simp [Act.eval]
  unfold Oper.wp
  rw [hr, Oper.upon_enter]
  refine hc.mono ?_
  intro e w' hR
  obtain ⟨v, rfl, hK⟩ := h e w' hR
  exact hK
end Go.Proofs.Ytcmgpfahpmkeoaa

/- One result that lies in a variable, behind ranges; loops of so many rounds, each by itself; min and max. For any seat. -/
namespace Go.Proofs.Ytcmgpfahpmkeoaa
set_option linter.unusedVariables false
set_option linter.unusedSimpArgs false
open Go.RowKit Go.Shelf

section
variable {P : Program} {fn : Func} {R : Ending → World → Prop} {n : Nat} {D : List Deferred} {M : Slots} {w : World} {x : ResultVar} {u : Value} {a : Act} {r : Option Nat} {c : Code} {Q : Exit → Act → World → Prop} {m : Nat}
theorem results1_run (F : Fr n D M a) (h : fn.results = #[x]) (hx : rv P w M x u) : (results fn a.tmps).run P w = .ok u w := by
  unfold results
  rw [h]
  cases x with
  | tmp t =>
    have g1 := F.get t _ hx
    simp only [List.mapM_toArray, List.mapM_cons, List.mapM_nil, g1]
    simp only [bind_assoc, pure_bind, Sem.run_bind, Sem.run_map, Sem.run_pure, Result.andThen_ok]
    rfl
  | cell s t =>
    obtain ⟨p, h0, h1⟩ := hx
    have g1 := F.get s _ h0
    simp only [List.mapM_toArray, List.mapM_cons, List.mapM_nil, g1, asAddr]
    simp only [bind_assoc, pure_bind, Sem.run_bind, Sem.run_map, Sem.run_pure, h1, Result.andThen_ok]
    rfl
theorem EE.retM1 (h : fn.results = #[x]) (hx : rv P w M x u) (hR : R (.returned u) w) : EE (calmP (bodyPostM Fence.wide 3 P fn R)) n [] M .ret w := EE.mk fun a F => by
  show LeavesInM Fence.wide 3 P fn a.tmps R a.defers .returning w
  rw [F.defers]
  exact ⟨_, results1_run F h hx, hR⟩
/-- Behind two ranges. -/
theorem EE.retNN {E1 E2 : Nat} (hE1 : w.heap[E1]? = some (.deferred (some []))) (hE2 : w.heap[E2]? = some (.deferred (some []))) (hne : E1 ≠ E2) (h : fn.results = #[x]) (hx : rv P (taken E1 (taken E2 w)) M x u) (hR : R (.returned u) (taken E1 (taken E2 w))) : EE (calmP (bodyPostM Fence.wide 3 P fn R)) n [mark E2, mark E1] M .ret w := EE.mk fun a F => by
  show LeavesInM Fence.wide 3 P fn a.tmps R a.defers .returning w
  rw [F.defers]
  have hE1' : (taken E2 w).heap[E1]? = some (.deferred (some [])) := (World.putObj_heap_other hne).trans hE1
  refine ⟨by simp, .inl ⟨_, _, rfl, run_takeDeferred hE2, ?_⟩⟩
  refine ⟨by simp, .inl ⟨_, _, rfl, run_takeDeferred hE1', ?_⟩⟩
  exact ⟨_, results1_run (P := P) F h hx, hR⟩
/-- Behind one range. -/
theorem EE.retN1 {E : Nat} (hE : w.heap[E]? = some (.deferred (some []))) (h : fn.results = #[x]) (hx : rv P (taken E w) M x u) (hR : R (.returned u) (taken E w)) : EE (calmP (bodyPostM Fence.wide 3 P fn R)) n [mark E] M .ret w := EE.mk fun a F => by
  show LeavesInM Fence.wide 3 P fn a.tmps R a.defers .returning w
  rw [F.defers]
  refine ⟨by simp, .inl ⟨_, _, rfl, run_takeDeferred hE, ?_⟩⟩
  exact ⟨_, results1_run (P := P) F h hx, hR⟩
theorem taken_up {g t E : Nat} {xs : List Value} (h : RowL w g t xs) (hne : g ≠ E) : RowL (taken E w) g t xs := by
  have gt : w.grownBy (taken E w) (some E) := grownBy_putObj' _ _ _
  exact h.same (gt.block g h.lt (by simpa using hne))
/-- A loop of so many rounds at most, each by itself. -/
structure RN (r : Option Nat) (P : Program) (c : Code) (Q : Exit → Act → World → Prop) (n : Nat) (D : List Deferred) (M : Slots) (m : Nat) (w : World) : Prop where
  h : ∀ a, Fr n D M a → Code.roundsIn (Wr r) 3 P c Q m a w
theorem CC.loopN (m : Nat) (h : RN r P c Q n D M m w) : CC r P Q n D M (.loop c) w := CC.mk fun a F => wpIn_loop_rounds m (h.h a F)
theorem RN.step (h : CC r P (Exit.then (fun a' w' => Code.roundsIn (Wr r) 3 P c Q m a' w') Q) n D M c w) : RN r P c Q n D M (m + 1) w := RN.mk fun a F => h.h a F
theorem RN.keep (L : List (Nat × Value)) (hL : Fits M L) (h : RN r P c Q n D (sl L) m w) : RN r P c Q n D M m w := RN.mk fun a F => h.h a (F.keep L hL)
theorem EE.again (h : RN r P c Q n D M m w) : EE (Exit.then (fun a' w' => Code.roundsIn (Wr r) 3 P c Q m a' w') Q) n D M .normal w := EE.mk fun a F => h.h a F
theorem R.max {o : Oper} {xs : Array Operand} {ts : Array TypeId} {k : IntKind} {y z : Int} (ho : o.op = .call { callee := .builtin .max, args := xs, argTypes := ts }) (hx : evsM M xs.toList = some [.int k y, .int k z]) : Runs P n D M o w (.value (.int k (if y < z then z else y))) w := R.builtin ho hx fun cs => by
  simp [Go.builtin, Builtin.max_, Builtin.max2]
theorem R.min {o : Oper} {xs : Array Operand} {ts : Array TypeId} {k : IntKind} {y z : Int} (ho : o.op = .call { callee := .builtin .min, args := xs, argTypes := ts }) (hx : evsM M xs.toList = some [.int k y, .int k z]) : Runs P n D M o w (.value (.int k (if z < y then z else y))) w := R.builtin ho hx fun cs => by
  simp [Go.builtin, Builtin.min_, Builtin.min2]
end
end Go.Proofs.Ytcmgpfahpmkeoaa

/- Parts of slices. Over any program. -/
namespace Go.Proofs.Ytcmgpfahpmkeoaa
set_option linter.unusedVariables false
set_option linter.unusedSimpArgs false
open Go.RowKit Go.Shelf
section
variable {P : Program} {w : World} {T : TypeId} {e k : Nat}
theorem I.slS {b off len cap lo hi : Nat} (h : slB P T = some (e, k)) (h1 : lo ≤ hi) (h2 : hi ≤ cap) (h3 : lo < cap) : (Instr.sliceAt T (.slice (some ⟨b, off, none⟩) len cap) (some (.int .i64 (lo : Int))) (some (.int .i64 (hi : Int))) none).run P w = .ok (.slice (some ⟨b, off + lo * k, none⟩) (hi - lo) (cap - lo)) w := by
  refine slAt_sl h ?_
  obtain ⟨hu, hs⟩ := sl_of h
  obtain ⟨i, hi', hsz⟩ : ∃ i, P.info? e = some i ∧ i.size = k := by
    unfold szB at hs
    cases hq : P.info? e with
    | none => rw [hq] at hs; cases hs
    | some i => rw [hq] at hs; exact ⟨i, rfl, by simpa using hs⟩
  have hne : ¬ cap = lo := by omega
  simp [Instr.slice, run_underlying hu, Instr.sliceBounds, run_sliceBound, sizeOf, typeInfo, hi', hsz, (by omega : (lo : Int) ≤ (hi : Int)), (by omega : (hi : Int) ≤ (cap : Int)), hne, Addr.add]
theorem I.slFrom {b off len cap lo : Nat} (h : slB P T = some (e, k)) (h1 : lo ≤ len) (h2 : len ≤ cap) (h3 : lo < cap) : (Instr.sliceAt T (.slice (some ⟨b, off, none⟩) len cap) (some (.int .i64 (lo : Int))) none none).run P w = .ok (.slice (some ⟨b, off + lo * k, none⟩) (len - lo) (cap - lo)) w := by
  refine slAt_sl h ?_
  obtain ⟨hu, hs⟩ := sl_of h
  obtain ⟨i, hi', hsz⟩ : ∃ i, P.info? e = some i ∧ i.size = k := by
    unfold szB at hs
    cases hq : P.info? e with
    | none => rw [hq] at hs; cases hs
    | some i => rw [hq] at hs; exact ⟨i, rfl, by simpa using hs⟩
  have hne : ¬ cap = lo := by omega
  simp [Instr.slice, run_underlying hu, Instr.sliceBounds, run_sliceBound, sizeOf, typeInfo, hi', hsz, (by omega : (lo : Int) ≤ (len : Int)), hne, Addr.add]
theorem I.slTo {a : Option Addr} {len cap hi : Nat} (h : slB P T = some (e, k)) (h2 : hi ≤ cap) : (Instr.sliceAt T (.slice a len cap) none (some (.int .i64 (hi : Int))) none).run P w = .ok (.slice a hi cap) w := by
  refine slAt_sl h ?_
  obtain ⟨hu, hs⟩ := sl_of h
  obtain ⟨i, hi', hsz⟩ : ∃ i, P.info? e = some i ∧ i.size = k := by
    unfold szB at hs
    cases hq : P.info? e with
    | none => rw [hq] at hs; cases hs
    | some i => rw [hq] at hs; exact ⟨i, rfl, by simpa using hs⟩
  simp [Instr.slice, run_underlying hu, Instr.sliceBounds, run_sliceBound, sizeOf, typeInfo, hi', hsz, (by omega : (hi : Int) ≤ (cap : Int))]
  cases a <;> simp [Addr.add]
theorem I.slSc {b off len cap lo hi : Nat} (hlit : Nat.ble lo 18446744073709551616 = true) (hlit2 : Nat.ble hi 18446744073709551616 = true) (h : slB P T = some (e, k)) (h1 : (@OfNat.ofNat Nat lo (instOfNatNat lo)) ≤ @OfNat.ofNat Nat hi (instOfNatNat hi)) (h2 : (@OfNat.ofNat Nat hi (instOfNatNat hi)) ≤ cap) (h3 : (@OfNat.ofNat Nat lo (instOfNatNat lo)) < cap) : (Instr.sliceAt T (.slice (some ⟨b, off, none⟩) len cap) (some (.int .i64 (@OfNat.ofNat Int lo instOfNat))) (some (.int .i64 (@OfNat.ofNat Int hi instOfNat))) none).run P w = .ok (.slice (some ⟨b, off + (@OfNat.ofNat Nat lo (instOfNatNat lo)) * k, none⟩) ((@OfNat.ofNat Nat hi (instOfNatNat hi)) - (@OfNat.ofNat Nat lo (instOfNatNat lo))) (cap - (@OfNat.ofNat Nat lo (instOfNatNat lo)))) w := I.slS h h1 h2 h3
theorem I.slToc {a : Option Addr} {len cap hi : Nat} (hlit : Nat.ble hi 18446744073709551616 = true) (h : slB P T = some (e, k)) (h2 : (@OfNat.ofNat Nat hi (instOfNatNat hi)) ≤ cap) : (Instr.sliceAt T (.slice a len cap) none (some (.int .i64 (@OfNat.ofNat Int hi instOfNat))) none).run P w = .ok (.slice a (@OfNat.ofNat Nat hi (instOfNatNat hi)) cap) w := I.slTo h h2
theorem R.minE {o : Oper} {n : Nat} {D : List Deferred} {M : Slots} {xs : Array Operand} {ts : Array TypeId} {k : IntKind} {y z x : Int} (ho : o.op = .call { callee := .builtin .min, args := xs, argTypes := ts }) (hx : evsM M xs.toList = some [.int k y, .int k z]) (e : (if z < y then z else y) = x) : Runs P n D M o w (.value (.int k x)) w := by
  subst e
  exact R.min ho hx
theorem cell_up {w' : World} {b o : Nat} {v : Value} (h : w.cell? ⟨b, o, none⟩ = some v) (hb : Below w.heap.size w w') : w'.cell? ⟨b, o, none⟩ = some v :=
  (World.cell?_of_block (hb.block b (World.block_lt_of_cell? w _ h))).trans h
theorem cell_gr {w' : World} {b o : Nat} {r : Nat} {v : Value} (h : w.cell? ⟨b, o, none⟩ = some v) (hg : w.grownBy w' (some r)) (hne : b ≠ r) : w'.cell? ⟨b, o, none⟩ = some v :=
  hg.cell h (by simpa using hne)
theorem cell_kept {K : Nat → Prop} {w' : World} {b o : Nat} {v : Value} (h : w.cell? ⟨b, o, none⟩ = some v) (hk : Kept K w w') (hb : K b) : w'.cell? ⟨b, o, none⟩ = some v := (World.cell?_of_block (hk.block b hb)).trans h
/-- A part of what a slice reads as. -/
theorem Reads.part {b off len cap lo hi : Nat} {xs : List Value} (h : Reads w (.slice (some ⟨b, off, none⟩) len cap) xs) (h1 : lo ≤ hi) (h2 : hi ≤ len) (h3 : hi - lo ≤ cap - lo) : Reads w (.slice (some ⟨b, off + lo * 1, none⟩) (hi - lo) (cap - lo)) ((xs.drop lo).take (hi - lo)) := by
  obtain ⟨a, c, e, hc, hr⟩ := h
  simp only [Value.slice.injEq] at e
  obtain ⟨rfl, rfl, rfl⟩ := e
  have hl : ((xs.drop lo).take (hi - lo)).length = hi - lo := by simp; omega
  refine ⟨_, _, by rw [hl], by rw [hl]; exact h3, fun hne => ?_⟩
  have hx : xs ≠ [] := by rintro rfl; simp at hne
  obtain ⟨b', off', ea, hb, hcell⟩ := hr hx
  simp only [Option.some.injEq, Addr.mk.injEq] at ea
  obtain ⟨rfl, rfl, _⟩ := ea
  refine ⟨b, off + lo * 1, rfl, hb, fun j hj => ?_⟩
  rw [hl] at hj
  have := hcell (lo + j) (by omega)
  rw [Nat.mul_one, Nat.add_assoc, this, List.getElem?_take, if_pos hj, List.getElem?_drop]
theorem SR.storeN {ops : Array Oper} {ok : World → Prop} {i : Nat} {K : Slots → World → Prop} {n : Nat} {D : List Deferred} {M : Slots} {o : Oper} {x y : Operand} {t : TypeId} {g off e : Nat} {xs vs : List Value} (hi : ops[i]? = some o) (ho : o.op = .store t x y) (hx : evM M x = some (.pointer (some ⟨g, off, none⟩))) (hy : evM M y = some (.agg vs.toArray)) (hz : szB P t = some vs.length) (hr : RowL w g e xs) (hl : off + vs.length ≤ xs.length) (h1 : ∀ u ∈ vs, u.oneCell' = true) (hd : o.dst = none) (hg : wantB ops M o.guard = some true)
    (c : ∀ w1, RowL w1 g e (xs.take off ++ vs ++ xs.drop (off + vs.length)) → w.grownBy w1 (some g) → w1.heap.size = w.heap.size → ok w1 ∧ K M w1) : SR P ops ok i K n D M w := SR.mk fun K' hK a F => by
  obtain ⟨w', hrun, hrow, hgr, hsz⟩ := I.stN hz hr hl h1
  have h := c w' hrow hgr hsz
  unfold stepR
  simp only [hi]
  rw [if_pos (F.want hg)]
  refine .inr (.inl ⟨_, R.store ho hx hy hrun a F, h.1, ?_⟩)
  rw [hd]
  exact hK _ _ h.2 _ F
end
end Go.Proofs.Ytcmgpfahpmkeoaa

/- Slices of tuples for the tool that writes walks: facts that are carried; two slices of one's own, one beside the other. Over any program. -/
namespace Go.Proofs.Ytcmgpfahpmkeoaa
set_option linter.unusedVariables false
set_option linter.unusedSimpArgs false
open Go.RowKit Go.Shelf
section
variable {α β : Type} {enc : α → List Value} {k e : Nat} {w w' : World} {v : Value} {ts : List α}
theorem Cells.up {b o : Nat} {vs : List Value} (h : Cells w ⟨b, o, none⟩ vs) (hb : Below w.heap.size w w') : Cells w' ⟨b, o, none⟩ vs := fun j u hu => by
  have h1 := h j u hu
  rw [Addr.add_lit] at h1 ⊢
  exact (World.cell?_of_block (hb.block b (World.block_lt_of_cell? w _ h1))).trans h1
theorem Cells.gr {b o g : Nat} {vs : List Value} (h : Cells w ⟨b, o, none⟩ vs) (hg : w.grownBy w' (some g)) (hne : b ≠ g) : Cells w' ⟨b, o, none⟩ vs := fun j u hu => by
  have h1 := h j u hu
  rw [Addr.add_lit] at h1 ⊢
  exact (World.cell?_of_block (hg.block b (World.block_lt_of_cell? w _ h1) (by simpa using hne))).trans h1
theorem Below.of_none (h : w.grownBy w' none) : Below w.heap.size w w' := (Below.refl _ _).grown h (Nat.le_refl _) fun j ej => by cases ej
theorem Kept.onB {w0 : World} {n : Nat} {K : Nat → Prop} (k : Kept K w w') (h : Below n w0 w) (hK : ∀ j, j < n → K j) : Below n w0 w' :=
  ⟨k.os.trans h.os, k.tape.trans h.tape, k.output.trans h.output, Nat.le_trans h.size k.size, fun j hj => (k.block j (hK j hj)).trans (h.block j hj)⟩
/-- What an append to another slice leaves. -/
theorem OwnsT.apart {r : Option Nat} {base : Nat} (h : OwnsT enc k w base e v ts) (hg : w.grownBy w' r) (hne : v.ownBlock = Option.none ∨ v.ownBlock ≠ r) : OwnsT enc k w' base e v ts := by
  cases r with
  | none => exact h.up (Below.of_none hg)
  | some g =>
    rcases hne with hne | hne
    · exact h.grown hg (by rw [hne]; simp)
    · exact h.grown hg hne
theorem Below.grownO {r : Option Nat} {w0 : World} {n : Nat} (h : Below n w0 w) (hg : w.grownBy w' r) (hn : n ≤ w.heap.size) (hr : ∀ g, r = some g → n ≤ g) : Below n w0 w' := h.grown hg hn hr
theorem RowL.grO {r : Option Nat} {g : Nat} {xs : List Value} (h : RowL w g e xs) (hg : w.grownBy w' r) (hr : r ≠ some g) : RowL w' g e xs := by
  cases r with
  | none => exact h.up (Below.of_none hg)
  | some b => exact h.gr hg (fun e => hr (by rw [e]))
theorem ReadsT.gr {g b off n cap : Nat} (h : ReadsT enc k w (.slice (some ⟨b, off, none⟩) n cap) ts) (hg : w.grownBy w' (some g)) (hne : b ≠ g) : ReadsT enc k w' (.slice (some ⟨b, off, none⟩) n cap) ts := h.grown hg fun x n' c' e _ => by
  simp only [Value.slice.injEq, Option.some.injEq] at e
  rw [← e.1]
  exact hne
theorem OwnsT.apart2 {r : Option Nat} {base : Nat} (h : OwnsT enc k w base e v ts) (hg : w.grownBy w' r) (hne : r = Option.none ∨ r ≠ v.ownBlock) : OwnsT enc k w' base e v ts := by
  rcases hne with rfl | hne
  · exact h.up (Below.of_none hg)
  · exact h.apart hg (.inr (Ne.symm hne))
theorem ownNe1 {v1 v1' v2 : Value} {S : Nat} (hne : v2.ownBlock = Option.none ∨ v2.ownBlock ≠ v1.ownBlock) (h1 : v1'.ownBlock = v1.ownBlock ∨ ∃ b, v1'.ownBlock = some b ∧ S ≤ b) (h2 : v2.ownBlock = Option.none ∨ ∃ b, v2.ownBlock = some b ∧ b < S) : v2.ownBlock = Option.none ∨ v2.ownBlock ≠ v1'.ownBlock := by
  rcases h1 with h1 | ⟨b, h1, hb⟩
  · rw [h1]; exact hne
  · rcases h2 with h2 | ⟨b2, h2, hb2⟩
    · exact .inl h2
    · refine .inr (fun e => ?_)
      rw [h1, h2] at e
      cases e
      omega
theorem ownNe2 {v1 v2 v2' : Value} {S : Nat} (hne : v2.ownBlock = Option.none ∨ v2.ownBlock ≠ v1.ownBlock) (h2 : v2'.ownBlock = v2.ownBlock ∨ ∃ b, v2'.ownBlock = some b ∧ S ≤ b) (h1 : v1.ownBlock = Option.none ∨ ∃ b, v1.ownBlock = some b ∧ b < S) : v2'.ownBlock = Option.none ∨ v2'.ownBlock ≠ v1.ownBlock := by
  rcases h2 with h2 | ⟨b, h2, hb⟩
  · rw [h2]; exact hne
  · refine .inr (fun e => ?_)
    rcases h1 with h1 | ⟨b1, h1, hb1⟩
    · rw [h1, h2] at e; cases e
    · rw [h1, h2] at e; cases e; omega
theorem own_lt {base : Nat} (h : OwnsT enc k w base e v ts) : v.ownBlock = Option.none ∨ ∃ b, v.ownBlock = some b ∧ b < w.heap.size := by
  rcases h.above with h | ⟨b, h, _, hl⟩
  · exact .inl h
  · exact .inr ⟨b, h, hl⟩
theorem own_ge {base : Nat} (h : OwnsT enc k w base e v ts) : ∀ g, v.ownBlock = some g → base ≤ g := by
  intro g hg
  rcases h.above with h | ⟨b, h, hb, _⟩
  · rw [h] at hg; cases hg
  · rw [h] at hg; cases hg; exact hb
theorem own_ne {base g : Nat} (h : OwnsT enc k w base e v ts) (hg : g < base) : v.ownBlock ≠ some g := fun e => by
  have := own_ge h g e
  omega
end
section
variable {P : Program} {w : World} {T TI e : TypeId} {z : Value} {bytes : Nat} {kn : IntKind} {o : Oper} {n i : Nat} {D : List Deferred} {M : Slots} {ops : Array Oper} {ok : World → Prop} {K : Slots → World → Prop}
theorem ZR.append {xs : Array Operand} {v vx : Value} {base m : Nat} {us ys : List Value} (hi : ops[i]? = some o) (ho : o.op = .call { callee := .builtin .append, args := xs, argTypes := #[T, T] }) (hx : evsM M xs.toList = some [v, vx]) (I : El P T e z bytes) (hown : w.ownsRow base e 1 v m us) (hr : Reads w vx ys) (hone : ∀ u ∈ ys, u.oneCell' = true)
    (h63 : m + ys.length ≤ maxLen) (hb : (m + ys.length) * bytes ≤ 140737488355328) (hbase : base ≤ w.heap.size) (hd : dstB n o.dst = true) (hg : wantB ops M o.guard = some true)
    (k : ∀ v' w', w'.ownsRow base e 1 v' (m + ys.length) (us ++ ys) → w.grownBy w' v.ownBlock → ok w' ∧ K (putM M o.dst v') w') : SR P ops ok i K n D M w := by
  obtain ⟨v', w', h1, h2, h3⟩ := run_append_all I o.type hown hr hone h63 hb hbase
  have h := k v' w' h2 h3
  refine SR.val (v := v') hi (R.builtin ho hx fun b => ?_) hd hg h.1 h.2
  unfold builtin
  simp only [Sem.run_bind, h1, Result.andThen_ok, Sem.run_pure]
/-- A write into a row of one's own. -/
theorem owns_set {base g cap m j : Nat} {xs : List Value} {u : Value} (h : w.ownsRow base e 1 (.slice (some ⟨g, 0, none⟩) m cap) m xs) (hj : j < m) :
    ∃ cur, RowL w g e cur ∧ j < cur.length ∧ base ≤ g ∧ ∀ w', RowL w' g e (cur.set j u) → w'.ownsRow base e 1 (.slice (some ⟨g, 0, none⟩) m cap) m (xs.set j u) := by
  rcases id h.2 with ⟨e1, _⟩ | ⟨g', cap', cur, e1, hbg, hg', hnc, hcm, hcs, htake⟩
  · cases e1
  · cases e1
    refine ⟨cur.toList, hg', by simp; omega, hbg, fun w' hw => ⟨by rw [List.length_set]; exact h.1, .inr ⟨g, cap, (cur.toList.set j u).toArray, rfl, hbg, hw, hnc, hcm, by simp [hcs], ?_⟩⟩⟩
    rw [← htake]
    simp only [List.toList_toArray, List.take_set]
end
end Go.Proofs.Ytcmgpfahpmkeoaa

/- Slices of one's own that grow in the rounds of a range over a function; facts that such a range leaves. Over any program. -/
namespace Go.Proofs.Ytcmgpfahpmkeoaa
set_option linter.unusedVariables false
set_option linter.unusedSimpArgs false
open Go.RowKit Go.Shelf
section
variable {α : Type} {enc : α → List Value} {k e B : Nat} {m : Nat → Prop} {w w' : World} {v : Value} {ts : List α}
theorem OwnsT.same {base : Nat} (h : OwnsT enc k w base e v ts) (hz : w.heap.size ≤ w'.heap.size) (hs : ∀ (g : Nat) (cs : Array Value), v.ownBlock = some g → w.heap[g]? = some (.cells cs e) → w'.heap[g]? = some (.cells cs e)) : OwnsT enc k w' base e v ts := by
  rcases id h.2 with ⟨e1, e2⟩ | ⟨g, cap, cur, rfl, hbg, hg, r⟩
  · exact ⟨h.1, .inl ⟨e1, e2⟩⟩
  · exact ⟨h.1, .inr ⟨g, cap, cur, rfl, hbg, hs g cur rfl hg, r⟩⟩
theorem OwnsT.turn {base : Nat} (h : OwnsT enc k w base e v ts) (ht : TurnsZ B m w w') (hm : ∀ g, v.ownBlock = some g → ¬ m g) : OwnsT enc k w' base e v ts :=
  h.same ht.size fun g cs hg hx => ht.same g _ hx (.inr ⟨hm g hg, rfl⟩)
theorem TurnsZ.cell {b o : Nat} {u : Value} (ht : TurnsZ B m w w') (h : w.cell? ⟨b, o, none⟩ = some u) (hb : b < B) : w'.cell? ⟨b, o, none⟩ = some u := by
  have hlt := World.block_lt_of_cell? _ _ h
  have hx := Array.getElem?_eq_getElem hlt
  exact (World.cell?_of_block ((ht.same b _ hx (.inl hb)).trans hx.symm)).trans h
theorem cell_grO {b o : Nat} {r : Option Nat} {u : Value} (h : w.cell? ⟨b, o, none⟩ = some u) (hg : w.grownBy w' r) (hr : r ≠ some b) : w'.cell? ⟨b, o, none⟩ = some u := by
  cases r with
  | none => exact cell_up h (Below.of_none hg)
  | some g => exact cell_gr h hg (fun e => hr (by rw [e]))
theorem Reads.sameB {b off len cap : Nat} {xs : List Value} (h : Reads w (.slice (some ⟨b, off, none⟩) len cap) xs) (hz : w.heap.size ≤ w'.heap.size) (hs : ∀ o, w.heap[b]? = some o → w'.heap[b]? = some o) : Reads w' (.slice (some ⟨b, off, none⟩) len cap) xs := by
  obtain ⟨a, c, e, hc, hr⟩ := h
  refine ⟨a, c, e, hc, fun hx => ?_⟩
  obtain ⟨b', off', ea, hb, hcell⟩ := hr hx
  simp only [Value.slice.injEq] at e
  rw [← e.1] at ea
  simp only [Option.some.injEq, Addr.mk.injEq] at ea
  obtain ⟨rfl, rfl, _⟩ := ea
  refine ⟨b, off, by rw [← e.1], Nat.lt_of_lt_of_le hb hz, fun j hj => ?_⟩
  rw [← hcell j hj]
  have hx := Array.getElem?_eq_getElem hb
  exact World.cell?_of_block ((hs _ hx).trans hx.symm)
theorem Reads.turn {b off len cap : Nat} {xs : List Value} (h : Reads w (.slice (some ⟨b, off, none⟩) len cap) xs) (ht : TurnsZ B m w w') (hb : b < B) : Reads w' (.slice (some ⟨b, off, none⟩) len cap) xs :=
  h.sameB ht.size fun o ho => ht.same b o ho (.inl hb)
theorem Reads.grO {b off len cap : Nat} {r : Option Nat} {xs : List Value} (h : Reads w (.slice (some ⟨b, off, none⟩) len cap) xs) (hg : w.grownBy w' r) (hr : r ≠ some b) : Reads w' (.slice (some ⟨b, off, none⟩) len cap) xs := by
  cases r with
  | none => exact h.up (Below.of_none hg)
  | some g => exact h.gr hg (fun e => hr (by rw [e]))
theorem ReadsT.sameB {b off len cap : Nat} (h : ReadsT enc k w (.slice (some ⟨b, off, none⟩) len cap) ts) (hz : w.heap.size ≤ w'.heap.size) (hs : ∀ o, w.heap[b]? = some o → w'.heap[b]? = some o) : ReadsT enc k w' (.slice (some ⟨b, off, none⟩) len cap) ts := by
  obtain ⟨a, c, e, hc, hr⟩ := h
  refine ⟨a, c, e, hc, fun hx => ?_⟩
  obtain ⟨b', off', ea, hb, hcell⟩ := hr hx
  simp only [Value.slice.injEq] at e
  rw [← e.1] at ea
  simp only [Option.some.injEq, Addr.mk.injEq] at ea
  obtain ⟨rfl, rfl, _⟩ := ea
  refine ⟨b, off, by rw [← e.1], Nat.lt_of_lt_of_le hb hz, ?_⟩
  have hx := Array.getElem?_eq_getElem hb
  have hbk := (hs _ hx).trans hx.symm
  intro j hj
  rw [← hcell j hj]
  exact World.cell?_of_block hbk
theorem reads_cell {b off len cap j : Nat} {xs : List Value} {u : Value} (h : Reads w (.slice (some ⟨b, off, none⟩) len cap) xs) (hu : xs[j]? = some u) : w.cell? ⟨b, off + j, none⟩ = some u := by
  obtain ⟨a, c, e, hc, hr⟩ := h
  have hj := (List.getElem?_eq_some_iff.1 hu).1
  obtain ⟨b', off', ea, hb, hcell⟩ := hr (by intro h0; rw [h0] at hj; exact Nat.not_lt_zero _ hj)
  simp only [Value.slice.injEq] at e
  rw [← e.1] at ea
  simp only [Option.some.injEq, Addr.mk.injEq] at ea
  obtain ⟨rfl, rfl, _⟩ := ea
  rw [hcell j hj]
  exact hu
theorem reads_int {b off len cap j : Nat} {kk : IntKind} {ns : List Nat} {y : Nat} (h : Reads w (.slice (some ⟨b, off, none⟩) len cap) (ints kk ns)) (hy : ns[j]? = some y) : w.cell? ⟨b, off + j, none⟩ = some (.int kk (y : Int)) :=
  reads_cell h (by simp only [ints, List.getElem?_map, hy]; rfl)
/-- A write into a slice of one's own, in a round. -/
theorem StaysZ.own {base : Nat} (h : OwnsT enc k w base e v ts) (hg : w.grownBy w' v.ownBlock) (hm : ∀ g, v.ownBlock = some g → ¬ m g) : StaysZ B m w w' := by
  refine ⟨hg.size, fun j o hb hj hc => ?_⟩
  have hlt := (Array.getElem?_eq_some_iff.1 hj).1
  refine (hg.block j hlt fun ej => ?_).trans hj
  rcases id h.2 with ⟨e1, e2⟩ | ⟨g, cap, cur, rfl, hbg, hgg, r⟩
  · rw [e1] at ej; cases ej
  · have ej' : j = g := by simpa [Value.ownBlock] using ej
    subst ej'
    rcases hc with hc | hc
    · exact hm j rfl hc
    · rw [hgg] at hj; cases hj; cases hc
theorem own_later {base : Nat} {m' : Nat → Prop} (o : OwnsT enc k w base e v ts) (hm : ∀ g, v.ownBlock = some g → ¬ m g) (hg : ∀ j, m' j → m j ∨ w.heap.size ≤ j) : ∀ g, v.ownBlock = some g → ¬ m' g := fun g hgv h => by
  rcases hg g h with h | h
  · exact hm g hgv h
  · rcases own_lt o with e1 | ⟨b, e1, hb⟩
    · rw [e1] at hgv; cases hgv
    · rw [e1] at hgv; cases hgv; omega
theorem own_taken {base E : Nat} (o : OwnsT enc k w base e v ts) (hE : w.heap[E]? = some (.deferred (some []))) : OwnsT enc k (taken E w) base e v ts :=
  o.same (by simp [taken]) fun g cs hg hx => (World.putObj_heap_other (fun e => by subst e; rw [hE] at hx; cases hx)).trans hx
theorem ownsT_form {base N : Nat} (h : OwnsT enc k w base e v ts) (hN : ts.length = N) (hn : 0 < N) : ∃ g cap, v = .slice (some ⟨g, 0, none⟩) N cap ∧ base ≤ g ∧ g < w.heap.size ∧ N ≤ cap := by
  subst hN
  rcases id h.2 with ⟨rfl, e1⟩ | ⟨g, cap, cur, rfl, hbg, hg, hnc, hcm, hcs, htake⟩
  · rw [e1] at hn; exact absurd hn (Nat.lt_irrefl _)
  · exact ⟨g, cap, rfl, hbg, (Array.getElem?_eq_some_iff.1 hg).1, hnc⟩
theorem own_new {v' : Value} (h1 : v'.ownBlock = v.ownBlock ∨ ∃ b, v'.ownBlock = some b ∧ w.heap.size ≤ b) (hm : ∀ g, v.ownBlock = some g → ¬ m g) (hlt : ∀ j, m j → j < w.heap.size) : ∀ g, v'.ownBlock = some g → ¬ m g := fun g hg => by
  rcases h1 with h1 | ⟨b, h1, hb⟩
  · exact hm g (by rw [← h1]; exact hg)
  · rw [h1] at hg; cases hg
    intro h
    have := hlt _ h
    omega
end
end Go.Proofs.Ytcmgpfahpmkeoaa

/- Slices whose elements have many cells: made, copied; parts of elements loaded and stored. Over any program. -/
namespace Go.Proofs.Ytcmgpfahpmkeoaa
set_option linter.unusedVariables false
set_option linter.unusedSimpArgs false
open Go.RowKit Go.Shelf

/-- k cells from a place on. -/
structure CellsN (w : World) (p : Addr) (k : Nat) (vs : List Value) : Prop where
  at' : Cells w p vs
  len : vs.length = k
section
variable {w w' : World} {p : Addr} {k b o : Nat} {vs : List Value} {P : Program} {t : TypeId}
theorem CellsN.lt (h : CellsN w ⟨b, o, none⟩ k vs) (hk : 0 < k) : b < w.heap.size := by
  have hl := h.len
  obtain ⟨u, hu⟩ : ∃ u, vs[0]? = some u := ⟨_, List.getElem?_eq_getElem (by omega)⟩
  have := h.at' 0 u hu
  rw [add_plain] at this
  exact World.block_lt_of_cell? _ _ this
theorem CellsN.up (h : CellsN w ⟨b, o, none⟩ k vs) (hb : Below w.heap.size w w') : CellsN w' ⟨b, o, none⟩ k vs := ⟨fun j u hu => by
  have h1 := h.at' j u hu
  rw [add_plain] at *
  exact (hb.cell (p := ⟨b, o + j, none⟩) (World.block_lt_of_cell? _ _ h1)).trans h1, h.len⟩
theorem CellsN.gr {r : Nat} (h : CellsN w ⟨b, o, none⟩ k vs) (hg : w.grownBy w' (some r)) (hne : b ≠ r) : CellsN w' ⟨b, o, none⟩ k vs := ⟨fun j u hu => by
  have h1 := h.at' j u hu
  rw [add_plain] at *
  exact (World.cell?_of_block (hg.block b (World.block_lt_of_cell? _ _ h1) (by simpa using hne))).trans h1, h.len⟩
theorem CellsN.kept {K : Nat → Prop} (h : CellsN w ⟨b, o, none⟩ k vs) (hk : Kept K w w') (hb : K b) : CellsN w' ⟨b, o, none⟩ k vs := ⟨fun j u hu => by
  have h1 := h.at' j u hu
  rw [add_plain] at *
  exact (World.cell?_of_block (hk.block b hb)).trans h1, h.len⟩
/-- A part. -/
theorem CellsN.part {us : List Value} (h : CellsN w ⟨b, o, none⟩ k vs) (c : Nat) {k' : Nat} (hu : (vs.drop c).take k' = us) (hl : c + k' ≤ k) : CellsN w ⟨b, o + c, none⟩ k' us := by
  have hv := h.len
  subst hu
  refine ⟨fun j u hj => ?_, by rw [List.length_take, List.length_drop]; omega⟩
  have hlt := (List.getElem?_eq_some_iff.1 hj).1
  rw [List.length_take, List.length_drop] at hlt
  rw [List.getElem?_take, if_pos (by omega), List.getElem?_drop] at hj
  have := h.at' _ u hj
  rw [add_plain] at *
  rw [Nat.add_assoc]
  exact this
theorem CellsN.cell {u : Value} (h : CellsN w ⟨b, o, none⟩ k vs) {j : Nat} (hu : vs[j]? = some u) : w.cell? ⟨b, o + j, none⟩ = some u := by
  have := h.at' j u hu
  rwa [add_plain] at this
theorem I.ldM (h : CellsN w p k vs) (hT : aggB P t = true) (hz : szB P t = some k) : (Instr.loadAt t (.pointer (some p))).run P w = .ok (.agg vs.toArray) w := I.ldN hT (by rw [hz, h.len]) h.at'
theorem lvM (h : CellsN w p k vs) (hT : aggB P t = true) (hz : szB P t = some k) : (loadVar t p).run P w = .ok (.agg vs.toArray) w := lvN hT (by rw [hz, h.len]) h.at'
theorem RowL.cellsN {g e off : Nat} {xs : List Value} (h : RowL w g e xs) (hv : (xs.drop off).take k = vs) (hl : off + k ≤ xs.length) : CellsN w ⟨g, off, none⟩ k vs := by
  have hlen : vs.length = k := by rw [← hv, List.length_take, List.length_drop]; omega
  exact ⟨h.cells (by rw [hlen]; exact hv), hlen⟩
theorem RowL.elemN {α : Type} {enc : α → List Value} {g e i : Nat} {ts : List α} {x : α} (E : Enc enc k) (h : RowL w g e (ts.flatMap enc)) (hx : ts[i]? = some x) : CellsN w ⟨g, i * k, none⟩ k (enc x) := by
  have hi := (List.getElem?_eq_some_iff.1 hx).1
  have hf := E.flat ts
  have hin : i * k + k ≤ ts.length * k := by
    have : (i + 1) * k ≤ ts.length * k := Nat.mul_le_mul_right _ hi
    rw [Nat.add_mul] at this
    omega
  refine h.cellsN ?_ (by omega)
  rw [E.drop, ← Nat.one_mul k, E.take]
  rw [show ts.drop i = x :: ts.drop (i + 1) by rw [← (List.getElem?_eq_some_iff.1 hx).2]; exact List.drop_eq_getElem_cons hi]
  simp
theorem ReadsT.elemN {α : Type} {enc : α → List Value} (E : Enc enc k) {off n cap i : Nat} {ts : List α} {x : α} (h : ReadsT enc k w (.slice (some ⟨b, off, none⟩) n cap) ts) (hx : ts[i]? = some x) : CellsN w ⟨b, off + i * k, none⟩ k (enc x) := by
  obtain ⟨b', off', e, _, hc⟩ := h.get E hx
  simp only [Option.some.injEq, Addr.mk.injEq] at e
  obtain ⟨rfl, rfl, _⟩ := e
  exact ⟨hc, E.len x⟩
theorem ReadsT.kp {α : Type} {enc : α → List Value} {K : Nat → Prop} {off n cap : Nat} {ts : List α} (h : ReadsT enc k w (.slice (some ⟨b, off, none⟩) n cap) ts) (hk : Kept K w w') (hb : K b) : ReadsT enc k w' (.slice (some ⟨b, off, none⟩) n cap) ts :=
  h.sameB hk.size fun _ ho => (hk.block b hb).trans ho
end

section
variable {α : Type} {enc : α → List Value} {k : Nat} {P : Program} {w : World} {o : Oper} {n : Nat} {D : List Deferred} {M : Slots} {T e : TypeId} {z : Value} {bytes : Nat} {r : Option Nat} {ops : Array Oper} {Q : Exit → Act → World → Prop} {rest : List Oper}
theorem madeCells_rep (zs : List Value) (hk : 0 < zs.length) (m : Nat) : (madeCells zs.toArray (m * zs.length)).toList = (List.replicate m zs).flatten := by
  apply List.ext_getElem?
  intro j
  unfold madeCells
  simp only [Array.toList_map, Array.toList_range, List.getElem?_map, List.size_toArray]
  have key : ∀ (m j : Nat), (List.replicate m zs).flatten[j]? = if j < m * zs.length then zs[j % zs.length]? else none := by
    intro m
    induction m with
    | zero => intro j; simp
    | succ m ih =>
      intro j
      rw [List.replicate_succ, List.flatten_cons, List.getElem?_append]
      by_cases hj : j < zs.length
      · rw [if_pos hj, Nat.mod_eq_of_lt hj, if_pos]
        rw [Nat.add_mul]; omega
      · rw [if_neg hj, ih (j - zs.length)]
        have e1 : (j - zs.length) % zs.length = j % zs.length := by
          conv => rhs; rw [show j = (j - zs.length) + zs.length by omega, Nat.add_mod_right]
        rw [e1, Nat.add_mul]
        by_cases h2 : j - zs.length < m * zs.length
        · rw [if_pos h2, if_pos (by omega)]
        · rw [if_neg h2, if_neg (by omega)]
  rw [key]
  by_cases hj : j < m * zs.length
  · have hm : j % zs.length < zs.length := Nat.mod_lt _ hk
    rw [if_pos hj, List.getElem?_range hj, List.getElem?_eq_getElem hm]
    simp [hm]
  · rw [if_neg hj, List.getElem?_eq_none (by simpa using Nat.le_of_not_lt hj)]
    rfl
/-- make([]T, l, m) of elements of many cells. -/
theorem run_mkE {zs : List Value} (I : ElT P T e z k bytes) (hzc : z.cells = zs.toArray) (hk : 0 < k) (l m : Nat) (hl : l ≤ m) (hb : bytes * m ≤ 281474976710656) (hn : m ≤ 9223372036854775807) (w : World) :
    ∃ w', (Instr.makeSlice T (.int .i64 (l : Int)) (.int .i64 (m : Int))).run P w = .ok (.slice (some ⟨w.heap.size, 0, none⟩) l m) w' ∧ RowL w' w.heap.size e (List.replicate m zs).flatten ∧ Below w.heap.size w w' ∧ w'.heap.size = w.heap.size + 1 := by
  obtain ⟨i, hi, hz, hsz, hby⟩ := I.info
  have hm := I.many
  rw [hzc] at hm
  have hzl : zs.length = k := by simpa using hm
  have hb' : (i.bytes : Int) * (m : Int) ≤ 281474976710656 := by
    have h : ((i.bytes * m : Nat) : Int) ≤ 281474976710656 := by rw [hby]; omega
    rwa [Int.natCast_mul] at h
  have h := run_make (P := P) w T e i z I.under hi hz .i64 .i64 l m (by omega) (by omega) hb' (by omega)
  simp only [Int.toNat_natCast, hsz, hzc] at h
  refine ⟨_, h, ?_, Below.alloc0 w _, by simp⟩
  have e1 : madeCells zs.toArray (m * k) = (List.replicate m zs).flatten.toArray := by
    rw [← madeCells_rep zs (by omega) m, hzl]
  rw [e1]
  exact RowL.new w e _
theorem LL.makeE {x y : Operand} {l m : Nat} {zs : List Value} (I : ElT P T e z k bytes) (hzc : z.cells = zs.toArray) (hk : 0 < k) (ho : o.op = .makeSlice T x y) (hx : evM M x = some (.int .i64 (l : Int))) (hy : evM M y = some (.int .i64 (m : Int))) (hl : l ≤ m) (hb : bytes * m ≤ 281474976710656) (hn : m ≤ 9223372036854775807) (hd : dstB n o.dst = true) (hg : wantB ops M o.guard = some true)
    (c : ∀ w1 g, g = w.heap.size → RowL w1 g e (List.replicate m zs).flatten → w1.heap.size = g + 1 → Below w.heap.size w w1 → LL r P ops Q n D (putM M o.dst (.slice (some ⟨g, 0, none⟩) l m)) rest w1) : LL r P ops Q n D M (o :: rest) w := by
  obtain ⟨w', h1, h2, h3, h4⟩ := run_mkE I hzc hk l m hl hb hn w
  exact LL.val (R.make ho hx hy h1) hd (by rw [ho]; rfl) hg (c w' _ rfl h2 h4 h3)
/-- copy(d, s) of elements of many cells, into a row as long as what is copied. -/
theorem LL.copyE {xs : Array Operand} {dT sT : TypeId} {g : Nat} {p : Addr} {m dc sc : Nat} {row cs : List Value} (ho : o.op = .call { callee := .builtin .copy, args := xs, argTypes := #[dT, sT] }) (hx : evsM M xs.toList = some [.slice (some ⟨g, 0, none⟩) m dc, .slice (some p) m sc])
    (I : ElT P dT e z k bytes) (hr : RowL w g e row) (hcs : CellsN w p (m * k) cs) (hl : row.length = m * k) (h1 : ∀ v ∈ cs, v.oneCell' = true) (hd : dstB n o.dst = true) (hg : wantB ops M o.guard = some true)
    (c : ∀ w1, RowL w1 g e cs → w.grownBy w1 (some g) → w1.heap.size = w.heap.size → LL r P ops Q n D (putM M o.dst (.int .i64 (m : Int))) rest w1) : LL r P ops Q n D M (o :: rest) w := by
  obtain ⟨i, hi, hz, hsz, hby⟩ := I.info
  have hcl := hcs.len
  have hl1 := run_loadCells_list (P := P) w p cs hcs.at'
  rw [hcl] at hl1
  have hst := run_storeCells_at P g 0 e cs 0 row.toArray w hr (by simp; omega) h1
  have hrun : (Builtin.copy_ #[dT, sT] o.type #[.slice (some ⟨g, 0, none⟩) m dc, .slice (some p) m sc]).run P w = .ok (goInt m) (w.setRow g cs.toArray) := by
    have e1 : ((row.toArray.toList.take (0 + 0) ++ cs ++ row.toArray.toList.drop (0 + 0 + cs.length)).toArray : Array Value) = cs.toArray := by
      simp only [Nat.add_zero, List.take_zero, List.nil_append, Nat.zero_add, List.toList_toArray]
      rw [List.drop_of_length_le (by omega)]
      simp
    rw [e1] at hst
    simp [Builtin.copy_, run_underlying I.under, Builtin.lenOf, Builtin.firstCells, sizeOf, typeInfo, hi, hsz, hl1, hst]
  refine LL.val (v := .int .i64 (m : Int)) (R.builtin ho hx fun b => ?_) hd (by rw [ho]; rfl) hg (c _ (setRow_heap w g row.toArray _ e (0, 0) hr) (setRow_grown w g _) (by simp))
  unfold builtin
  simp only [Sem.run_bind, hrun, Result.andThen_ok, Sem.run_pure]
  rfl
theorem Enc.setN (E : Enc enc k) (ts : List α) (i c : Nat) (t u : α) (vs : List Value) (ht : ts[i]? = some t) (hc : c + vs.length ≤ k) (hu : enc u = (enc t).take c ++ vs ++ (enc t).drop (c + vs.length)) : (ts.flatMap enc).take (i * k + c) ++ vs ++ (ts.flatMap enc).drop (i * k + c + vs.length) = (ts.set i u).flatMap enc := by
  have hi : i < ts.length := (List.getElem?_eq_some_iff.1 ht).1
  have hlen := E.flat ts
  have hin : i * k + k ≤ ts.length * k := by
    have : (i + 1) * k ≤ ts.length * k := Nat.mul_le_mul_right _ hi
    rw [Nat.add_mul] at this
    omega
  have hself : ts.set i t = ts := by
    rw [List.getElem?_eq_getElem hi] at ht
    cases ht
    simp
  have h0 := E.set ts i t hi
  rw [hself] at h0
  have hA : ((ts.flatMap enc).take (i * k)).length = i * k := by rw [List.length_take]; omega
  have hel := E.len t
  rw [E.set ts i u hi, hu]
  have h1 : (ts.flatMap enc).take (i * k + c) = (ts.flatMap enc).take (i * k) ++ (enc t).take c := by
    conv => lhs; rw [h0]
    rw [List.append_assoc, List.take_append, hA, List.take_of_length_le (by omega), show i * k + c - i * k = c by omega, List.take_append_of_le_length (by omega)]
  have h2 : (ts.flatMap enc).drop (i * k + c + vs.length) = (enc t).drop (c + vs.length) ++ (ts.flatMap enc).drop (i * k + k) := by
    conv => lhs; rw [h0]
    rw [List.append_assoc, List.drop_append, hA, List.drop_of_length_le (l := (ts.flatMap enc).take (i * k)) (by omega), List.nil_append, show i * k + c + vs.length - i * k = c + vs.length by omega, List.drop_append_of_le_length (by omega)]
  rw [h1, h2]
  simp [List.append_assoc]
/-- A part of an element of a row, stored anew. -/
theorem LL.storeP {x y : Operand} {t : TypeId} {g off : Nat} {ts : List α} {vs : List Value} (i c : Nat) (s u : α) (ho : o.op = .store t x y) (hx : evM M x = some (.pointer (some ⟨g, off, none⟩))) (hy : evM M y = some (.agg vs.toArray)) (hz : szB P t = some vs.length) (hoff : off = i * k + c) (E : Enc enc k)
    (hr : RowL w g e (ts.flatMap enc)) (hs : ts[i]? = some s) (hc : c + vs.length ≤ k) (hu : enc u = (enc s).take c ++ vs ++ (enc s).drop (c + vs.length)) (h1 : ∀ v ∈ vs, v.oneCell' = true) (hd : o.dst = none) (hg : wantB ops M o.guard = some true)
    (kk : ∀ w', RowL w' g e ((ts.set i u).flatMap enc) → w.grownBy w' (some g) → w'.heap.size = w.heap.size → LL r P ops Q n D M rest w') : LL r P ops Q n D M (o :: rest) w := by
  have hi : i < ts.length := (List.getElem?_eq_some_iff.1 hs).1
  have hin : i * k + k ≤ ts.length * k := by
    have : (i + 1) * k ≤ ts.length * k := Nat.mul_le_mul_right _ hi
    rw [Nat.add_mul] at this
    omega
  have hf := E.flat ts
  subst hoff
  refine LL.storeN (vs := vs) ho hx hy hz hr (by omega) h1 hd hg ?_
  intro w' r' g' z'
  refine kk w' ?_ g' z'
  rw [← E.setN ts i c s u vs hs hc hu]
  exact r'
/-- A whole element of a row, stored anew. -/
theorem LL.storeR {x y : Operand} {t : TypeId} {g off : Nat} {ts : List α} (i : Nat) (u : α) (ho : o.op = .store t x y) (hx : evM M x = some (.pointer (some ⟨g, off, none⟩))) (hoff : off = i * k) (hy : evM M y = some (.agg (enc u).toArray)) (hz : szB P t = some k) (E : Enc enc k)
    (hr : RowL w g e (ts.flatMap enc)) (hi : i < ts.length) (hd : o.dst = none) (hg : wantB ops M o.guard = some true)
    (kk : ∀ w', RowL w' g e ((ts.set i u).flatMap enc) → w.grownBy w' (some g) → w'.heap.size = w.heap.size → LL r P ops Q n D M rest w') : LL r P ops Q n D M (o :: rest) w := by
  have hl := E.len u
  exact LL.storeP i 0 ts[i] u ho hx hy (by rw [hz, hl]) (by rw [hoff]; rfl) E hr (List.getElem?_eq_getElem hi) (by rw [hl]; omega) (by rw [List.take_zero, List.nil_append, List.drop_of_length_le (by rw [E.len, hl]; omega), List.append_nil]) (E.one u) hd hg kk
/-- One cell of an element of a row, stored anew. -/
theorem LL.store1 {x y : Operand} {t : TypeId} {g off : Nat} {ts : List α} {v : Value} (i c : Nat) (s u : α) (ho : o.op = .store t x y) (hx : evM M x = some (.pointer (some ⟨g, off, none⟩))) (hy : evM M y = some v) (hz : szB P t = some 1) (hoff : off = i * k + c) (E : Enc enc k)
    (hr : RowL w g e (ts.flatMap enc)) (hs : ts[i]? = some s) (hc : c < k) (hu : enc u = (enc s).set c v) (h1 : v.oneCell' = true) (hcs : v.cells = #[v]) (hd : o.dst = none) (hg : wantB ops M o.guard = some true)
    (kk : ∀ w', RowL w' g e ((ts.set i u).flatMap enc) → w.grownBy w' (some g) → w'.heap.size = w.heap.size → LL r P ops Q n D M rest w') : LL r P ops Q n D M (o :: rest) w := by
  have hi : i < ts.length := (List.getElem?_eq_some_iff.1 hs).1
  have hin : i * k + k ≤ ts.length * k := by
    have : (i + 1) * k ≤ ts.length * k := Nat.mul_le_mul_right _ hi
    rw [Nat.add_mul] at this
    omega
  have hf := E.flat ts
  subst hoff
  refine LL.store ho hx hy hz hr (by omega) h1 hcs hd hg ?_
  intro w' r' g' z'
  refine kk w' ?_ g' z'
  rw [← E.setF ts i c s u v hs hc hu]
  exact r'
/-- A part of an element of a slice of one's own, stored anew. -/
theorem LL.storeFs {x y : Operand} {t : TypeId} {base g off N cap : Nat} {ts : List α} {vs : List Value} (i c : Nat) (s u : α) (ho : o.op = .store t x y) (hx : evM M x = some (.pointer (some ⟨g, off, none⟩))) (hy : evM M y = some (.agg vs.toArray)) (hz : szB P t = some vs.length) (hoff : off = i * k + c) (E : Enc enc k)
    (hown : OwnsT enc k w base e (.slice (some ⟨g, 0, none⟩) N cap) ts) (hs : ts[i]? = some s) (hc : c + vs.length ≤ k) (hu : enc u = (enc s).take c ++ vs ++ (enc s).drop (c + vs.length)) (h1 : ∀ v ∈ vs, v.oneCell' = true) (hd : o.dst = none) (hg : wantB ops M o.guard = some true)
    (kk : ∀ w', OwnsT enc k w' base e (.slice (some ⟨g, 0, none⟩) N cap) (ts.set i u) → w.grownBy w' (some g) → w'.heap.size = w.heap.size → LL r P ops Q n D M rest w') : LL r P ops Q n D M (o :: rest) w := by
  rcases id hown.2 with ⟨e1, _⟩ | ⟨g', cap', cur, e1, hbg, hg', hnc, hcm, hcs', htake⟩
  · cases e1
  · cases e1
    have hrow : RowL w g e cur.toList := hg'
    have hi : i < ts.length := (List.getElem?_eq_some_iff.1 hs).1
    have hin : i * k + k ≤ ts.length * k := by
      have : (i + 1) * k ≤ ts.length * k := Nat.mul_le_mul_right _ hi
      rw [Nat.add_mul] at this
      omega
    have hck : ts.length * k ≤ cap * k := Nat.mul_le_mul_right _ hnc
    have hcl : cur.toList.length = cap * k := by simpa using hcs'
    have hf := E.flat ts
    subst hoff
    refine LL.storeN (vs := vs) ho hx hy hz hrow (by omega) h1 hd hg ?_
    intro w' r' g' z'
    refine kk w' ⟨E.flat _, .inr ⟨g, cap, _, by rw [List.length_set], hbg, r', by rw [List.length_set]; exact hnc, hcm, ?_, ?_⟩⟩ g' z'
    · simp only [List.size_toArray, List.length_append, List.length_take, List.length_drop, hcl]
      omega
    · rw [List.length_set, ← E.setN ts i c s u vs hs hc hu]
      have hcur : cur.toList = ts.flatMap enc ++ cur.toList.drop (ts.length * k) := by rw [← htake, List.take_append_drop]
      have hsp := set_part (ts.flatMap enc) (cur.toList.drop (ts.length * k)) vs (i * k + c) vs.length rfl (by omega)
      rw [← hcur, hf] at hsp
      simp only [List.toList_toArray]
      exact hsp
/-- A row that is made, as a slice of one's own without elements. -/
theorem RowL.own0 {g cap base : Nat} {xs : List Value} (h : RowL w g e xs) (hl : xs.length = cap * k) (hb : base ≤ g) (hc : cap ≤ maxLen) : OwnsT enc k w base e (.slice (some ⟨g, 0, none⟩) 0 cap) [] :=
  ⟨by simp, .inr ⟨g, cap, xs.toArray, rfl, hb, h, Nat.zero_le _, hc, by simpa using hl, by simp⟩⟩
theorem OwnsT.vlen {base m cap : Nat} {a : Option Addr} {ts : List α} (h : OwnsT enc k w base e (.slice a m cap) ts) : ts.length = m := by
  rcases h.2 with ⟨e1, h0⟩ | ⟨g', cap', cur, e1, _⟩
  · simp only [Value.slice.injEq] at e1
    omega
  · simp only [Value.slice.injEq] at e1
    exact e1.2.1.symm
/-- append(s, x...) where there is room. -/
theorem LL.appendF {xs : Array Operand} {base g m cap : Nat} {vx : Value} {ts us : List α} (ho : o.op = .call { callee := .builtin .append, args := xs, argTypes := #[T, T] }) (hx : evsM M xs.toList = some [.slice (some ⟨g, 0, none⟩) m cap, vx]) (E : Enc enc k) (I : ElT P T e z k bytes) (hown : OwnsT enc k w base e (.slice (some ⟨g, 0, none⟩) m cap) ts) (hr : ReadsT enc k w vx us)
    (l : Nat) (hlu : us.length = l) (hne : 0 < l) (hroom : m + l ≤ cap) (hd : dstB n o.dst = true) (hg : wantB ops M o.guard = some true)
    (c : ∀ w', OwnsT enc k w' base e (.slice (some ⟨g, 0, none⟩) (m + l) cap) (ts ++ us) → w.grownBy w' (some g) → LL r P ops Q n D (putM M o.dst (.slice (some ⟨g, 0, none⟩) (m + l) cap)) rest w') : LL r P ops Q n D M (o :: rest) w := by
  have hlen := hown.vlen
  obtain ⟨i, hi, hz, hsz, hby⟩ := I.info
  obtain ⟨a, cap2, rfl, hc, hcell⟩ := hr
  obtain ⟨b, off, rfl, _, hh⟩ := hcell (by rintro rfl; simp at hlu; omega)
  subst hlu
  have hnews : ∀ j u, (us.flatMap enc)[j]? = some u → w.cell? ((⟨b, off, none⟩ : Addr).add j) = some u := fun j u hj => by
    have hjl : j < us.length * k := by
      have := (List.getElem?_eq_some_iff.1 hj).1
      rwa [E.flat] at this
    rw [Addr.add_lit, hh j hjl, hj]
  have hown' : w.ownsRow base e k (.slice (some ⟨g, 0, none⟩) m cap) m (ts.flatMap enc) := by
    have := hown
    unfold OwnsT at this
    rwa [hlen] at this
  obtain ⟨w', h1, h2, h3⟩ := run_append_fits (P := P) (w := w) base T o.type e i k I.under hi hsz g m cap _ hown' ⟨b, off, none⟩ us.length cap2 (us.flatMap enc) (E.flat us) hnews (E.ones us) hroom
  refine LL.val (v := .slice (some ⟨g, 0, none⟩) (m + us.length) cap) (R.builtin ho hx fun b => ?_) hd (by rw [ho]; rfl) hg (c w' ?_ h3)
  · unfold builtin
    simp only [Sem.run_bind, h1, Result.andThen_ok, Sem.run_pure]
  · unfold OwnsT
    rw [List.length_append, hlen, List.flatMap_append]
    exact h2
/-- A store of all of a row. -/
theorem LL.storeAll {x y : Operand} {t : TypeId} {g m : Nat} {vs xs : List Value} (ho : o.op = .store t x y) (hx : evM M x = some (.pointer (some ⟨g, 0, none⟩))) (hy : evM M y = some (.agg vs.toArray)) (hz : szB P t = some m) (hl : vs.length = m) (hr : RowL w g e xs) (hxl : xs.length = m) (h1 : ∀ v ∈ vs, v.oneCell' = true) (hd : o.dst = none) (hg : wantB ops M o.guard = some true)
    (kk : ∀ w', RowL w' g e vs → w.grownBy w' (some g) → w'.heap.size = w.heap.size → LL r P ops Q n D M rest w') : LL r P ops Q n D M (o :: rest) w := by
  refine LL.storeN (vs := vs) ho hx hy (by rw [hz, hl]) hr (by omega) h1 hd hg ?_
  intro w' r' g' z'
  refine kk w' ?_ g' z'
  have e1 : xs.take 0 ++ vs ++ xs.drop (0 + vs.length) = vs := by
    rw [List.drop_of_length_le (by omega)]
    simp
  first
    | (rw [← e1]; exact r')
    | (have := r'; simp only [List.take_zero, List.nil_append, Nat.zero_add] at this; rw [List.drop_of_length_le (by omega), List.append_nil] at this; exact this)
end
end Go.Proofs.Ytcmgpfahpmkeoaa

/- Maps whose keys are plain: what a block has at each key, and what the operations on maps do. Over any program. -/
namespace Go.Proofs.Ytcmgpfahpmkeoaa
set_option linter.unusedVariables false
set_option linter.unusedSimpArgs false
open Go.RowKit Go.Shelf
open Go.MapKept (Stamped IsKey)

/-- Block b is a map of n entries; f says what it has at a key. -/
def MapK {α β : Type} (d : TypeDesc) (ke : α → Value) (ve : β → Value) (w : World) (b n : Nat) (f : α → Option β) : Prop :=
  ∃ es clock, w.heap[b]? = some (.map es clock) ∧ Stamped es clock ∧ es.size = n ∧ (∀ x ∈ es.toList, ∃ a v, x.key = ke a ∧ f a = some v ∧ x.val = ve v) ∧ ∀ a v, f a = some v → ∃ x ∈ es.toList, x.key = ke a ∧ x.val = ve v
/-- Keys that are plain. -/
structure KeyE {α : Type} (P : Program) (k : TypeId) (d : TypeDesc) (ke : α → Value) : Prop where
  under : P.underlying k = some d
  key : ∀ a, IsKey d (ke a)
  inj : ∀ a b, ke a = ke b → a = b
/-- The map with another thing at a key, or none. -/
def putMap {α β : Type} [DecidableEq α] (f : α → Option β) (a : α) (v : Option β) : α → Option β := fun x => if x = a then v else f x

section
variable {α β : Type} {d : TypeDesc} {ke : α → Value} {ve : β → Value} {w w' : World} {b n : Nat} {f : α → Option β} {P : Program} {k : TypeId}
theorem MapK.lt (h : MapK d ke ve w b n f) : b < w.heap.size := by
  obtain ⟨es, clock, hb, _⟩ := h
  exact (Array.getElem?_eq_some_iff.1 hb).1
theorem MapK.same (h : MapK d ke ve w b n f) (e : w'.heap[b]? = w.heap[b]?) : MapK d ke ve w' b n f := by
  obtain ⟨es, clock, hb, r⟩ := h
  exact ⟨es, clock, e.trans hb, r⟩
theorem MapK.up (h : MapK d ke ve w b n f) (hb : Below w.heap.size w w') : MapK d ke ve w' b n f := h.same (hb.block b h.lt)
theorem MapK.gr {r : Nat} (h : MapK d ke ve w b n f) (hg : w.grownBy w' (some r)) (hne : b ≠ r) : MapK d ke ve w' b n f := h.same (hg.block b h.lt (by simpa using hne))
theorem MapK.kept {K : Nat → Prop} (h : MapK d ke ve w b n f) (hk : Kept K w w') (hb : K b) : MapK d ke ve w' b n f := h.same (hk.block b hb)
theorem MapK.made (w : World) : MapK d ke ve (w.alloc (.map #[] 0)) w.heap.size 0 f ↔ (∀ a, f a = none) := by
  constructor
  · rintro ⟨es, clock, hb, _, h0, _, h2⟩ a
    cases hf : f a with
    | none => rfl
    | some v =>
      obtain ⟨x, hx, _⟩ := h2 a v hf
      have : es = #[] := Array.eq_empty_of_size_eq_zero h0
      subst this
      simp at hx
  · intro h
    exact ⟨#[], 0, (MapKept.heap_alloc w _).1, MapKept.stamped_empty 0, rfl, by simp, fun a v e => by rw [h a] at e; cases e⟩
theorem isKey_of (KE : KeyE P k d ke) {es : Array MapEntry} (h : ∀ x ∈ es.toList, ∃ a v, x.key = ke a ∧ f a = some v ∧ x.val = ve v) : ∀ x ∈ es.toList, IsKey d x.key := fun x hx => by
  obtain ⟨a, v, e, _⟩ := h x hx
  rw [e]
  exact KE.key a
/-- What is found at a key. -/
theorem findK (KE : KeyE P k d ke) {es : Array MapEntry} {clock : Nat} (hs : Stamped es clock) (h1 : ∀ x ∈ es.toList, ∃ a v, x.key = ke a ∧ f a = some v ∧ x.val = ve v) (h2 : ∀ a v, f a = some v → ∃ x ∈ es.toList, x.key = ke a ∧ x.val = ve v) (a : α) :
    (f a = none ∧ Instr.findNow d (ke a) es.toList 0 = some none ∧ ∀ x ∈ es.toList, x.key ≠ ke a) ∨ ∃ v j e, f a = some v ∧ Instr.findNow d (ke a) es.toList 0 = some (some (j, ve v)) ∧ es.toList[j]? = some e ∧ e.key = ke a ∧ e.val = ve v := by
  rcases MapKept.findNow_spec (KE.key a) es.toList 0 (isKey_of KE h1) with ⟨h3, h4⟩ | ⟨j, e, h3, h4, h5⟩
  · left
    refine ⟨?_, h3, h4⟩
    cases hf : f a with
    | none => rfl
    | some v =>
      obtain ⟨x, hx, e, _⟩ := h2 a v hf
      exact absurd e (h4 x hx)
  · right
    obtain ⟨a', v, e1, e2, e3⟩ := h1 e (List.mem_of_getElem? h4)
    have : a' = a := KE.inj _ _ (by rw [← e1, h5])
    subst this
    exact ⟨v, j, e, e2, by rw [h3, e3, Nat.zero_add], h4, h5, e3⟩
/-- The value at a key, or z. -/
def atK (ve : β → Value) (z : Value) : Option β → Value
  | some v => ve v
  | none => z
theorem I.look (KE : KeyE P k d ke) {t e : TypeId} {z : Value} (ht : P.underlying t = some (.map k e)) (hz : zeroB P e = some z) (h : MapK d ke ve w b n f) (a : α) (c : Bool) :
    (Instr.lookup t (.map (some b)) (ke a) c).run P w = .ok (if c then .tuple #[atK ve z (f a), .bool (f a).isSome] else atK ve z (f a)) w := by
  obtain ⟨es, clock, hb, hs, _, h1, h2⟩ := h
  rcases findK KE hs h1 h2 a with ⟨hf, hn, _⟩ | ⟨v, j, e, hf, hn, _⟩
  · simp [Instr.lookup, run_underlying ht, MapKept.run_getObj_map hb, MapKept.run_checkKey KE.under (KE.key a), MapKept.run_findKey KE.under hn, zero_of hz, Result.andThen, hf, atK]
  · simp [Instr.lookup, run_underlying ht, MapKept.run_getObj_map hb, MapKept.run_checkKey KE.under (KE.key a), MapKept.run_findKey KE.under hn, Result.andThen, hf, atK]
theorem I.look0 (KE : KeyE P k d ke) {t e : TypeId} {z : Value} (ht : P.underlying t = some (.map k e)) (hz : zeroB P e = some z) (a : α) (c : Bool) :
    (Instr.lookup t (.map none) (ke a) c).run P w = .ok (if c then .tuple #[z, .bool false] else z) w := by
  have hn : Instr.findNow d (ke a) ([] : List MapEntry) 0 = some none := rfl
  simp [Instr.lookup, run_underlying ht, MapKept.run_checkKey KE.under (KE.key a), MapKept.run_findKey KE.under hn, zero_of hz, Result.andThen]
theorem I.mlen {t e : TypeId} (ht : P.underlying t = some (.map k e)) (h : MapK d ke ve w b n f) (ty : TypeId) : (Builtin.len_ #[t] ty #[.map (some b)]).run P w = .ok (.int .i64 (n : Int)) w := by
  obtain ⟨es, clock, hb, _, rfl, _⟩ := h
  simp [Builtin.len_, run_underlying ht, MapKept.run_getObj_map hb, goInt, Result.andThen]
theorem set_grown {o o' : Obj} (hb : w.heap[b]? = some o) : w.grownBy { w with heap := w.heap.setIfInBounds b o' } (some b) :=
  ⟨rfl, rfl, rfl, by simp, fun i _ hi => (MapKept.heap_set hb).2 i (fun e => hi (by rw [e]))⟩
variable [DecidableEq α]
/-- m[k] = v. -/
theorem I.mput (KE : KeyE P k d ke) {t e : TypeId} (ht : P.underlying t = some (.map k e)) (h : MapK d ke ve w b n f) (a : α) (v : β) :
    ∃ w', (Instr.mapUpdate t (.map (some b)) (ke a) (ve v)).run P w = .ok () w' ∧ MapK d ke ve w' b (if (f a).isSome then n else n + 1) (putMap f a (some v)) ∧ w.grownBy w' (some b) ∧ w'.heap.size = w.heap.size := by
  obtain ⟨es, clock, hb, hs, hn, h1, h2⟩ := h
  rcases findK KE hs h1 h2 a with ⟨hf, hnow, hno⟩ | ⟨u, j, e0, hf, hnow, hj, hk0, hv0⟩
  · refine ⟨{ w with heap := w.heap.setIfInBounds b (.map (es.push { key := ke a, val := ve v, born := clock }) (clock + 1)) }, ?_, ⟨_, _, (MapKept.heap_set hb).1, MapKept.stamped_push hs hno, by simp [hf, hn], ?_, ?_⟩, set_grown hb, by simp⟩
    · simp [Instr.mapUpdate, run_underlying ht, MapKept.run_getObj_map hb, MapKept.run_checkKey KE.under (KE.key a), MapKept.run_findKey KE.under hnow, MapKept.run_setObj_map _ hb, Result.andThen]
    · intro x hx
      simp only [Array.toList_push, List.mem_append, List.mem_singleton] at hx
      rcases hx with hx | rfl
      · obtain ⟨a', v', e1, e2, e3⟩ := h1 x hx
        refine ⟨a', v', e1, ?_, e3⟩
        unfold putMap
        rw [if_neg, e2]
        rintro rfl
        rw [hf] at e2
        cases e2
      · exact ⟨a, v, rfl, by simp [putMap], rfl⟩
    · intro a' v' h
      unfold putMap at h
      split at h
      · rename_i e
        subst e
        cases h
        exact ⟨{ key := ke a', val := ve v, born := clock }, by simp, rfl, rfl⟩
      · obtain ⟨x, hx, e1, e2⟩ := h2 a' v' h
        exact ⟨x, by simp only [Array.toList_push, List.mem_append]; exact .inl hx, e1, e2⟩
  · have hj' : es[j]? = some e0 := by simpa using hj
    have hkey : ∀ e', es[j]? = some e' → ({ e' with key := ke a, val := ve v } : MapEntry).key = e'.key := fun e' he' => by rw [hj'] at he'; cases he'; exact hk0.symm
    have hlist : (es.modify j (fun e' => { e' with key := ke a, val := ve v })).toList = es.toList.set j { e0 with key := ke a, val := ve v } := by
      rw [Array.toList_modify]
      refine List.ext_getElem? fun i => ?_
      rw [List.getElem?_modify, List.getElem?_set]
      by_cases hi : j = i
      · subst hi
        have hl : j < es.size := by simpa using (List.getElem?_eq_some_iff.1 hj).1
        rw [hj]
        simp [hl]
      · simp [hi]
    refine ⟨{ w with heap := w.heap.setIfInBounds b (.map (es.modify j fun e' => { e' with key := ke a, val := ve v }) clock) }, ?_, ⟨_, _, (MapKept.heap_set hb).1, MapKept.stamped_modify hs _ _ (fun _ _ => rfl) (fun e' _ he' => hkey e' he'), by simp [hf, hn], ?_, ?_⟩, set_grown hb, by simp⟩
    · simp [Instr.mapUpdate, run_underlying ht, MapKept.run_getObj_map hb, MapKept.run_checkKey KE.under (KE.key a), MapKept.run_findKey KE.under hnow, hj', hk0, MapKept.run_keyThatStays (KE.key a), MapKept.run_setObj_map _ hb, Result.andThen]
    · intro x hx
      rw [hlist] at hx
      obtain ⟨i, hi⟩ := List.getElem?_of_mem hx
      rw [List.getElem?_set] at hi
      split at hi
      · split at hi
        · cases hi
          exact ⟨a, v, rfl, by simp [putMap], rfl⟩
        · cases hi
      · rename_i hne
        have hx0 := List.mem_of_getElem? hi
        obtain ⟨a', v', e1, e2, e3⟩ := h1 x hx0
        refine ⟨a', v', e1, ?_, e3⟩
        unfold putMap
        rw [if_neg, e2]
        rintro rfl
        have hpw := ((MapKept.stamped_iff es clock).1 hs).2.2
        have hll := (List.getElem?_eq_some_iff.1 hj).1
        have hil := (List.getElem?_eq_some_iff.1 hi).1
        have e4 := (List.getElem?_eq_some_iff.1 hj).2
        have e5 := (List.getElem?_eq_some_iff.1 hi).2
        rcases Nat.lt_or_ge i j with hlt | hge
        · have := List.pairwise_iff_getElem.1 hpw i j hil hll hlt
          rw [e4, e5, hk0, e1] at this
          exact this rfl
        · have := List.pairwise_iff_getElem.1 hpw j i hll hil (by omega)
          rw [e4, e5, hk0, e1] at this
          exact this rfl
    · intro a' v' h
      rw [hlist]
      have hll : j < es.size := by simpa using (List.getElem?_eq_some_iff.1 hj).1
      unfold putMap at h
      split at h
      · rename_i e
        subst e
        cases h
        exact ⟨{ e0 with key := ke a', val := ve v }, List.mem_iff_getElem?.2 ⟨j, by rw [List.getElem?_set]; simp [hll]⟩, rfl, rfl⟩
      · rename_i hne
        obtain ⟨x, hx, e1, e2⟩ := h2 a' v' h
        obtain ⟨i, hi⟩ := List.getElem?_of_mem hx
        refine ⟨x, List.mem_iff_getElem?.2 ⟨i, ?_⟩, e1, e2⟩
        rw [List.getElem?_set, if_neg, hi]
        rintro rfl
        rw [hj] at hi
        cases hi
        exact hne (KE.inj _ _ (by rw [← e1, hk0]))
/-- delete(m, k). -/
theorem I.mdel (KE : KeyE P k d ke) {t e : TypeId} (ht : P.underlying t = some (.map k e)) (h : MapK d ke ve w b n f) (a : α) (ty : TypeId) :
    ∃ w', (Builtin.delete_ #[t, k] ty #[.map (some b), ke a]).run P w = .ok (.tuple #[]) w' ∧ MapK d ke ve w' b (if (f a).isSome then n - 1 else n) (putMap f a none) ∧ w.grownBy w' (some b) ∧ w'.heap.size = w.heap.size := by
  obtain ⟨es, clock, hb, hs, hn, h1, h2⟩ := h
  rcases findK KE hs h1 h2 a with ⟨hf, hnow, hno⟩ | ⟨u, j, e0, hf, hnow, hj, hk0, hv0⟩
  · refine ⟨{ w with heap := w.heap.setIfInBounds b (.map es clock) }, ?_, ⟨_, _, (MapKept.heap_set hb).1, hs, by simp [hf, hn], ?_, ?_⟩, set_grown hb, by simp⟩
    · simp [Builtin.delete_, run_underlying ht, MapKept.run_getObj_map hb, MapKept.run_checkKey KE.under (KE.key a), MapKept.run_findKey KE.under hnow, MapKept.run_setObj_map _ hb, Result.andThen]
    · intro x hx
      obtain ⟨a', v', e1, e2, e3⟩ := h1 x hx
      refine ⟨a', v', e1, ?_, e3⟩
      unfold putMap
      rw [if_neg, e2]
      rintro rfl
      rw [hf] at e2
      cases e2
    · intro a' v' h
      unfold putMap at h
      split at h
      · cases h
      · exact h2 a' v' h
  · have hjl : j < es.toList.length := (List.getElem?_eq_some_iff.1 hj).1
    have hjs : j < es.size := by simpa using hjl
    have hsub : (es.eraseIdxIfInBounds j).toList = es.toList.eraseIdx j := by
      unfold Array.eraseIdxIfInBounds
      rw [dif_pos hjs]
      simp
    have hpw := ((MapKept.stamped_iff es clock).1 hs).2.2
    have hoth : ∀ i x, es.toList[i]? = some x → i ≠ j → x.key ≠ ke a := fun i x hi hne e1 => by
      have hil := (List.getElem?_eq_some_iff.1 hi).1
      have e4 := (List.getElem?_eq_some_iff.1 hj).2
      have e5 := (List.getElem?_eq_some_iff.1 hi).2
      rcases Nat.lt_or_ge i j with hlt | hge
      · have := List.pairwise_iff_getElem.1 hpw i j hil hjl hlt
        rw [e4, e5, hk0, e1] at this
        exact this rfl
      · have := List.pairwise_iff_getElem.1 hpw j i hjl hil (by omega)
        rw [e4, e5, hk0, e1] at this
        exact this rfl
    refine ⟨{ w with heap := w.heap.setIfInBounds b (.map (es.eraseIdxIfInBounds j) clock) }, ?_, ⟨_, _, (MapKept.heap_set hb).1, MapKept.stamped_erase hs _, ?_, ?_, ?_⟩, set_grown hb, by simp⟩
    · simp [Builtin.delete_, run_underlying ht, MapKept.run_getObj_map hb, MapKept.run_checkKey KE.under (KE.key a), MapKept.run_findKey KE.under hnow, MapKept.run_setObj_map _ hb, Result.andThen]
    · rw [← Array.length_toList, hsub, List.length_eraseIdx, if_pos hjl]
      simp [hf, ← hn]
    · intro x hx
      rw [hsub] at hx
      obtain ⟨i, hne, hi⟩ := List.mem_eraseIdx_iff_getElem?.1 hx
      obtain ⟨a', v', e1, e2, e3⟩ := h1 x (List.mem_of_getElem? hi)
      refine ⟨a', v', e1, ?_, e3⟩
      unfold putMap
      rw [if_neg, e2]
      rintro rfl
      exact hoth i x hi hne e1
    · intro a' v' h
      unfold putMap at h
      split at h
      · cases h
      · rename_i hne
        obtain ⟨x, hx, e1, e2⟩ := h2 a' v' h
        obtain ⟨i, hi⟩ := List.getElem?_of_mem hx
        refine ⟨x, ?_, e1, e2⟩
        rw [hsub, List.mem_eraseIdx_iff_getElem?]
        refine ⟨i, ?_, hi⟩
        rintro rfl
        rw [hj] at hi
        cases hi
        exact hne (KE.inj _ _ (by rw [← e1, hk0]))
omit [DecidableEq α] in
/-- clear(m). -/
theorem I.mclear {t e : TypeId} (ht : P.underlying t = some (.map k e)) (h : MapK d ke ve w b n f) (ty : TypeId) :
    ∃ w', (Builtin.clear_ #[t] ty #[.map (some b)]).run P w = .ok (.tuple #[]) w' ∧ MapK d ke ve w' b 0 (fun _ => none) ∧ w.grownBy w' (some b) ∧ w'.heap.size = w.heap.size := by
  obtain ⟨es, clock, hb, hs, hn, h1, h2⟩ := h
  refine ⟨{ w with heap := w.heap.setIfInBounds b (.map #[] clock) }, ?_, ⟨_, _, (MapKept.heap_set hb).1, MapKept.stamped_empty _, rfl, by simp, by simp⟩, set_grown hb, by simp⟩
  simp [Builtin.clear_, run_underlying ht, MapKept.run_getObj_map hb, MapKept.run_setObj_map _ hb, Result.andThen]
end

section
variable {α β : Type} {d : TypeDesc} {ke : α → Value} {ve : β → Value} {w w' : World} {b b' n n' : Nat} {f : α → Option β}
/-- What a map has says how many entries it has. -/
theorem MapK.many (h : MapK d ke ve w b n f) (h' : MapK d ke ve w' b' n' f) : n = n' := by
  obtain ⟨es, clock, _, hs, hn, h1, h2⟩ := h
  obtain ⟨es', clock', _, hs', hn', h1', h2'⟩ := h'
  have key : ∀ (es : Array MapEntry), (∀ x ∈ es.toList, ∃ a v, x.key = ke a ∧ f a = some v ∧ x.val = ve v) → (∀ a v, f a = some v → ∃ x ∈ es.toList, x.key = ke a ∧ x.val = ve v) → ∀ k, k ∈ es.toList.map (·.key) ↔ ∃ a v, k = ke a ∧ f a = some v := fun es h1 h2 k => by
    constructor
    · intro h
      obtain ⟨x, hx, rfl⟩ := List.mem_map.1 h
      obtain ⟨a, v, e, e2, _⟩ := h1 x hx
      exact ⟨a, v, e, e2⟩
    · rintro ⟨a, v, rfl, e⟩
      obtain ⟨x, hx, e2, _⟩ := h2 a v e
      exact List.mem_map.2 ⟨x, hx, e2⟩
  have hp := (List.perm_ext_iff_of_nodup hs.2.2 hs'.2.2).2 fun k => (key es h1 h2 k).trans (key es' h1' h2' k).symm
  have := hp.length_eq
  simp only [List.length_map, Array.length_toList] at this
  omega
end
/-! A range over a map: which keys are still to come. -/
def RangeK {α β : Type} (d : TypeDesc) (ke : α → Value) (ve : β → Value) (w : World) (b r n : Nat) (f : α → Option β) (left : α → Prop) (cnt : Nat) : Prop :=
  ∃ es clock since seen c0, w.heap[b]? = some (.map es clock) ∧ Stamped es clock ∧ es.size = n ∧ (∀ x ∈ es.toList, ∃ a v, x.key = ke a ∧ f a = some v ∧ x.val = ve v) ∧ (∀ a v, f a = some v → ∃ x ∈ es.toList, x.key = ke a ∧ x.val = ve v) ∧
    w.heap[r]? = some (.mapIter (some b) since seen c0) ∧ (∀ x ∈ es.toList, x.born < since) ∧ (leftOf es seen).size = cnt ∧ (∀ x ∈ es.toList, ∀ a, x.key = ke a → (left a ↔ seen.contains x.born = false)) ∧ (∀ a, left a → f a ≠ none) ∧ since ≤ c0 ∧ since ≤ clock
section
variable {α β : Type} {d : TypeDesc} {ke : α → Value} {ve : β → Value} {w w' : World} {b r n cnt : Nat} {f : α → Option β} {left : α → Prop} {P : Program} {k : TypeId}
theorem RangeK.map (h : RangeK d ke ve w b r n f left cnt) : MapK d ke ve w b n f := by
  obtain ⟨es, clock, since, seen, c0, hb, hs, hn, h1, h2, _⟩ := h
  exact ⟨es, clock, hb, hs, hn, h1, h2⟩
theorem RangeK.lt (h : RangeK d ke ve w b r n f left cnt) : r < w.heap.size := by
  obtain ⟨es, clock, since, seen, c0, _, _, _, _, _, hr, _⟩ := h
  exact (Array.getElem?_eq_some_iff.1 hr).1
theorem RangeK.same (h : RangeK d ke ve w b r n f left cnt) (e1 : w'.heap[b]? = w.heap[b]?) (e2 : w'.heap[r]? = w.heap[r]?) : RangeK d ke ve w' b r n f left cnt := by
  obtain ⟨es, clock, since, seen, c0, hb, hs, hn, h1, h2, hr, rest⟩ := h
  exact ⟨es, clock, since, seen, c0, e1.trans hb, hs, hn, h1, h2, e2.trans hr, rest⟩
theorem RangeK.up (h : RangeK d ke ve w b r n f left cnt) (hb : Below w.heap.size w w') : RangeK d ke ve w' b r n f left cnt := h.same (hb.block b h.map.lt) (hb.block r h.lt)
theorem RangeK.gr {g : Nat} (h : RangeK d ke ve w b r n f left cnt) (hg : w.grownBy w' (some g)) (hne : b ≠ g ∧ r ≠ g) : RangeK d ke ve w' b r n f left cnt := h.same (hg.block b h.map.lt (by simpa using hne.1)) (hg.block r h.lt (by simpa using hne.2))
theorem I.mrange (KE : KeyE P k d ke) {t e : TypeId} (ht : P.underlying t = some (.map k e)) (h : MapK d ke ve w b n f) :
    ∃ w', (Instr.range t (.map (some b))).run P w = .ok (.pointer (some ⟨w.heap.size, 0, none⟩)) w' ∧ RangeK d ke ve w' b w.heap.size n f (fun a => f a ≠ none) n ∧ Below w.heap.size w w' ∧ w'.heap.size = w.heap.size + 1 := by
  have hlt := h.lt
  obtain ⟨es, clock, hb, hs, hn, h1, h2⟩ := h
  refine ⟨_, run_range_map w t k e b es clock ht hb, ⟨es, clock, clock, #[], clock, ((MapKept.heap_alloc w _).2 b hlt).trans hb, hs, hn, h1, h2, (MapKept.heap_alloc w _).1, hs.1, ?_, ?_, fun a h => h, Nat.le_refl _, Nat.le_refl _⟩, Below.alloc0 w _, by simp⟩
  · have e0 : leftOf es #[] = es := Array.filter_eq_self.2 fun x _ => by simp
    rw [e0, hn]
  · intro x hx a e
    obtain ⟨a', v, e1, e2, _⟩ := h1 x hx
    obtain rfl : a = a' := KE.inj _ _ (by rw [← e, e1])
    simp [e2]
/-- The step: nothing is left; or a key that was left comes, whichever, with what the map has there. -/
theorem I.mnext (KE : KeyE P k d ke) (h : RangeK d ke ve w b r n f left cnt) (ty : TypeId) :
    (cnt = 0 ∧ (∀ a, ¬ left a) ∧ (Instr.next (.pointer (some ⟨r, 0, none⟩)) false ty).run P w = .ok (.tuple #[.bool false]) w) ∨
    ∃ a v w' cnt', left a ∧ f a = some v ∧ (Instr.next (.pointer (some ⟨r, 0, none⟩)) false ty).run P w = .ok (.tuple #[.bool true, ke a, ve v]) w' ∧ RangeK d ke ve w' b r n f (fun x => left x ∧ x ≠ a) cnt' ∧ cnt' < cnt ∧ w.grownBy w' (some r) ∧ w'.heap.size = w.heap.size ∧
      (Instr.entry (.pointer (some ⟨r, 0, none⟩))).run P w' = .ok (.tuple #[ke a, ve v]) w' := by
  obtain ⟨es, clock, since, seen, c0, hb, hs, hn, h1, h2, hr, hold, rfl, hl1, hl2, hsc, hsk⟩ := h
  have hne : r ≠ b := by
    rintro rfl
    rw [hb] at hr
    cases hr
  rcases run_next_at (P := P) w ty r b since c0 seen es clock hr hb hold hsc with ⟨h0, hrun⟩ | ⟨e, he, w1, hal, hrun⟩
  · refine .inl ⟨h0, fun a ha => ?_, hrun⟩
    have hf := hl2 a ha
    cases hfa : f a with
    | none => exact hf hfa
    | some v =>
      obtain ⟨x, hx, e1, _⟩ := h2 a v hfa
      have := (hl1 x hx a e1).1 ha
      have hm : x ∈ (leftOf es seen).toList := by simp only [leftOf, Array.toList_filter, List.mem_filter]; exact ⟨hx, by rw [this]; rfl⟩
      have := List.length_pos_of_mem hm
      simp at this
      omega
  · have hem : e ∈ es.toList ∧ seen.contains e.born = false := by
      simp only [leftOf, Array.toList_filter, List.mem_filter] at he
      exact ⟨he.1, by simpa only [Bool.not_eq_true'] using he.2⟩
    obtain ⟨hem, hes⟩ := hem
    obtain ⟨a, v, ek, ef, ev⟩ := h1 e hem
    have hr1 : w1.heap[r]? = some (.mapIter (some b) since seen c0) := by rcases hal with rfl | rfl <;> exact hr
    have hb1 : w1.heap[b]? = some (.map es clock) := by rcases hal with rfl | rfl <;> exact hb
    have hset := MapKept.heap_set (o' := .mapIter (some b) since (seen.push e.born) clock) hr1
    have hb' := (hset.2 b (fun e1 => hne e1.symm)).trans hb1
    have hst := (MapKept.stamped_iff es clock).1 hs
    refine .inr ⟨a, v, _, _, (hl1 e hem a ek).2 hes, ef, by rw [← ek, ← ev]; exact hrun, ⟨es, clock, since, seen.push e.born, clock, hb', hs, hn, h1, h2, hset.1, hold, rfl, fun x hx a2 e2 => ?_, fun a2 h3 => hl2 a2 h3.1, hsk, hsk⟩, left_shrinks es seen e he, ?_, ?_, ?_⟩
    · simp only
      rw [hl1 x hx a2 e2, contains_push]
      by_cases hxe : x.born = e.born
      · have : x = e := born_inj hst.2.1 hx hem hxe
        subst this
        obtain rfl : a2 = a := KE.inj _ _ (by rw [← e2, ek])
        simp
      · have h5 : a2 ≠ a := by
          rintro rfl
          have h6 := hst.2.2
          have : x = e := by
            obtain ⟨i, hi⟩ := List.getElem?_of_mem hx
            obtain ⟨j, hj⟩ := List.getElem?_of_mem hem
            have hil := (List.getElem?_eq_some_iff.1 hi).1
            have hjl := (List.getElem?_eq_some_iff.1 hj).1
            have e4 := (List.getElem?_eq_some_iff.1 hi).2
            have e5 := (List.getElem?_eq_some_iff.1 hj).2
            rcases Nat.lt_trichotomy i j with hlt | rfl | hlt
            · exact absurd (by rw [e4, e5, e2, ek]) (List.pairwise_iff_getElem.1 h6 i j hil hjl hlt)
            · rw [hi] at hj; cases hj; rfl
            · exact absurd (by rw [e4, e5, e2, ek]) (List.pairwise_iff_getElem.1 h6 j i hjl hil hlt)
          exact hxe (by rw [this])
        simp [hxe, h5]
    · rcases hal with rfl | rfl <;> exact ⟨rfl, rfl, rfl, by simp [ChangeMaps.setBlock], fun i _ hi => hset.2 i (fun e1 => hi (by rw [e1]))⟩
    · rcases hal with rfl | rfl <;> simp [ChangeMaps.setBlock]
    · rw [← ek, ← ev]
      exact run_entry_at _ r b since seen es clock e hset.1 hb' hem hst.2.1
end

/-! At the operations. -/
section
variable {α β : Type} {d : TypeDesc} {ke : α → Value} {ve : β → Value} {w : World} {b n : Nat} {f : α → Option β} {P : Program} {k t e : TypeId} {o : Oper} {N : Nat} {D : List Deferred} {M : Slots} {x y : Operand} {r : Option Nat} {ops : Array Oper} {Q : Exit → Act → World → Prop} {rest : List Oper} {z : Value} {u : Value}
theorem R.lookK (ho : o.op = .lookup t x y false) (hx : evM M x = some (.map (some b))) (KE : KeyE P k d ke) (ht : P.underlying t = some (.map k e)) (hz : zeroB P e = some z) (h : MapK d ke ve w b n f) (a : α) (hy : evM M y = some (ke a)) (hu : atK ve z (f a) = u) : Runs P N D M o w (.value u) w := fun ac F => by
  unfold execOp; simp only [ho, F.ev hx, F.ev hy, Sem.run_bind, Sem.run_pure, I.look KE ht hz h a false, Result.andThen_ok]; simp [hu]
theorem R.lookKT (ho : o.op = .lookup t x y true) (hx : evM M x = some (.map (some b))) (KE : KeyE P k d ke) (ht : P.underlying t = some (.map k e)) (hz : zeroB P e = some z) (h : MapK d ke ve w b n f) (a : α) (hy : evM M y = some (ke a)) {v : β} (hv : f a = some v) : Runs P N D M o w (.value (.tuple #[ve v, .bool true])) w := fun ac F => by
  unfold execOp; simp only [ho, F.ev hx, F.ev hy, Sem.run_bind, Sem.run_pure, I.look KE ht hz h a true, Result.andThen_ok]; simp [hv, atK]
theorem R.lookKF (ho : o.op = .lookup t x y true) (hx : evM M x = some (.map (some b))) (KE : KeyE P k d ke) (ht : P.underlying t = some (.map k e)) (hz : zeroB P e = some z) (h : MapK d ke ve w b n f) (a : α) (hy : evM M y = some (ke a)) (hv : f a = none) : Runs P N D M o w (.value (.tuple #[z, .bool false])) w := fun ac F => by
  unfold execOp; simp only [ho, F.ev hx, F.ev hy, Sem.run_bind, Sem.run_pure, I.look KE ht hz h a true, Result.andThen_ok]; simp [hv, atK]
theorem R.mlen {xs : Array Operand} (ho : o.op = .call { callee := .builtin .len, args := xs, argTypes := #[t] }) (hx : evsM M xs.toList = some [.map (some b)]) (ht : P.underlying t = some (.map k e)) (h : MapK d ke ve w b n f) : Runs P N D M o w (.value (.int .i64 (n : Int))) w :=
  R.builtin ho hx fun cs => by
    show (((do pure (Next.value (← Builtin.len_ #[t] o.type #[.map (some b)]))) : Sem Next)).run P w = _
    simp only [Sem.run_bind, I.mlen ht h o.type, Result.andThen_ok, Sem.run_pure]
theorem R.makeMap0 (ho : o.op = .makeMap t none) : Runs P N D M o w (.value (.map (some w.heap.size))) (w.alloc (.map #[] 0)) := fun ac F => by
  unfold execOp; simp [ho, Instr.makeMap, Result.andThen]
theorem R.makeMapH {hnt : Int} {kk : IntKind} (ho : o.op = .makeMap t (some x)) (hx : evM M x = some (.int kk hnt)) (ht : P.underlying t = some (.map k e)) : Runs P N D M o w (.value (.map (some w.heap.size))) (w.alloc (.map #[] 0)) := fun ac F => by
  unfold execOp; simp [ho, F.ev hx, Instr.makeMap, run_underlying ht, asInt, asIntOf, Result.andThen]
theorem LL.makeMap (hr : Runs P N D M o w (.value (.map (some w.heap.size))) (w.alloc (.map #[] 0))) (hd : dstB N o.dst = true) (hdf : dfB o.op = false) (hg : wantB ops M o.guard = some true)
    (c : ∀ w1 g, g = w.heap.size → (∀ (α β : Type) (d : TypeDesc) (ke : α → Value) (ve : β → Value), MapK d ke ve w1 g 0 (fun _ => none)) → w1.heap.size = g + 1 → Below w.heap.size w w1 → LL r P ops Q N D (putM M o.dst (.map (some g))) rest w1) : LL r P ops Q N D M (o :: rest) w :=
  LL.val hr hd hdf hg (c _ _ rfl (fun _ _ _ _ _ => (MapK.made w).2 fun _ => rfl) (by simp) (Below.alloc0 w _))
theorem LL.mput [DecidableEq α] {y2 : Operand} (ho : o.op = .mapUpdate t x y y2 ∨ o.op = .insert t x y y2) (hx : evM M x = some (.map (some b))) (KE : KeyE P k d ke) (ht : P.underlying t = some (.map k e)) (h : MapK d ke ve w b n f) (a : α) (v : β) (hy : evM M y = some (ke a)) (hv : evM M y2 = some (ve v)) (hd : o.dst = none) (hdf : dfB o.op = false) (hg : wantB ops M o.guard = some true)
    (c : ∀ w', MapK d ke ve w' b (if (f a).isSome then n else n + 1) (putMap f a (some v)) → w.grownBy w' (some b) → w'.heap.size = w.heap.size → LL r P ops Q N D M rest w') : LL r P ops Q N D M (o :: rest) w := by
  obtain ⟨w', h1, h2, h3, h4⟩ := I.mput KE ht h a v
  refine LL.unit (w' := w') (fun ac F => ?_) hd hdf hg (c w' h2 h3 h4)
  unfold execOp
  rcases ho with ho | ho <;> simp only [ho, F.ev hx, F.ev hy, F.ev hv, Sem.run_bind, Sem.run_pure, h1, Result.andThen_ok]
theorem LL.mdel [DecidableEq α] {xs : Array Operand} (ho : o.op = .call { callee := .builtin .delete, args := xs, argTypes := #[t, k] }) (KE : KeyE P k d ke) (a : α) (hx : evsM M xs.toList = some [.map (some b), ke a]) (ht : P.underlying t = some (.map k e)) (h : MapK d ke ve w b n f) (hd : dstB N o.dst = true) (hg : wantB ops M o.guard = some true)
    (c : ∀ w', MapK d ke ve w' b (if (f a).isSome then n - 1 else n) (putMap f a none) → w.grownBy w' (some b) → w'.heap.size = w.heap.size → LL r P ops Q N D (putM M o.dst (.tuple #[])) rest w') : LL r P ops Q N D M (o :: rest) w := by
  obtain ⟨w', h1, h2, h3, h4⟩ := I.mdel KE ht h a o.type
  refine LL.val (v := .tuple #[]) (R.builtin ho hx fun cs => ?_) hd (by rw [ho]; rfl) hg (c w' h2 h3 h4)
  unfold builtin
  simp only [Sem.run_bind, h1, Result.andThen_ok, Sem.run_pure]
theorem LL.mclear {xs : Array Operand} (ho : o.op = .call { callee := .builtin .clear, args := xs, argTypes := #[t] }) (hx : evsM M xs.toList = some [.map (some b)]) (ht : P.underlying t = some (.map k e)) (h : MapK d ke ve w b n f) (hd : dstB N o.dst = true) (hg : wantB ops M o.guard = some true)
    (c : ∀ w', MapK d ke ve w' b 0 (fun _ => none) → w.grownBy w' (some b) → w'.heap.size = w.heap.size → LL r P ops Q N D (putM M o.dst (.tuple #[])) rest w') : LL r P ops Q N D M (o :: rest) w := by
  obtain ⟨w', h1, h2, h3, h4⟩ := I.mclear ht h o.type
  refine LL.val (v := .tuple #[]) (R.builtin ho hx fun cs => ?_) hd (by rw [ho]; rfl) hg (c w' h2 h3 h4)
  unfold builtin
  simp only [Sem.run_bind, h1, Result.andThen_ok, Sem.run_pure]
theorem LL.mrange (ho : o.op = .range t x) (hx : evM M x = some (.map (some b))) (KE : KeyE P k d ke) (ht : P.underlying t = some (.map k e)) (h : MapK d ke ve w b n f) (hd : dstB N o.dst = true) (hg : wantB ops M o.guard = some true)
    (c : ∀ w' g, g = w.heap.size → RangeK d ke ve w' b g n f (fun a => f a ≠ none) n → Below w.heap.size w w' → w'.heap.size = g + 1 → LL r P ops Q N D (putM M o.dst (.pointer (some ⟨g, 0, none⟩))) rest w') : LL r P ops Q N D M (o :: rest) w := by
  obtain ⟨w', h1, h2, h3, h4⟩ := I.mrange KE ht h
  refine LL.val (v := .pointer (some ⟨w.heap.size, 0, none⟩)) (w' := w') (fun ac F => ?_) hd (by rw [ho]; rfl) hg (c w' _ rfl h2 h3 h4)
  unfold execOp
  simp only [ho, F.ev hx, Sem.run_bind, Sem.run_pure, h1, Result.andThen_ok]
theorem LL.mnext {it cnt : Nat} {left : α → Prop} (ho : o.op = .next x false) (hx : evM M x = some (.pointer (some ⟨it, 0, none⟩))) (KE : KeyE P k d ke) (h : RangeK d ke ve w b it n f left cnt) (hd : dstB N o.dst = true) (hg : wantB ops M o.guard = some true)
    (c0 : (∀ a, ¬ left a) → LL r P ops Q N D (putM M o.dst (.tuple #[.bool false])) rest w)
    (c1 : ∀ a v w' cnt', left a → f a = some v → RangeK d ke ve w' b it n f (fun x => left x ∧ x ≠ a) cnt' → cnt' < cnt → w.grownBy w' (some it) → w'.heap.size = w.heap.size → (Instr.entry (.pointer (some ⟨it, 0, none⟩))).run P w' = .ok (.tuple #[ke a, ve v]) w' → LL r P ops Q N D (putM M o.dst (.tuple #[.bool true, ke a, ve v])) rest w') : LL r P ops Q N D M (o :: rest) w := by
  rcases I.mnext KE h o.type with ⟨_, h1, h2⟩ | ⟨a, v, w', cnt', h1, h2, h3, h4, h5, h6, h7, h8⟩
  · refine LL.val (v := .tuple #[.bool false]) (w' := w) (fun ac F => ?_) hd (by rw [ho]; rfl) hg (c0 h1)
    unfold execOp
    simp only [ho, F.ev hx, Sem.run_bind, Sem.run_pure, h2, Result.andThen_ok]
  · refine LL.val (v := .tuple #[.bool true, ke a, ve v]) (w' := w') (fun ac F => ?_) hd (by rw [ho]; rfl) hg (c1 a v w' cnt' h1 h2 h4 h5 h6 h7 h8)
    unfold execOp
    simp only [ho, F.ev hx, Sem.run_bind, Sem.run_pure, h3, Result.andThen_ok]
theorem R.entry {u : Value} (ho : o.op = .entry x) (hx : evM M x = some u) {v : Value} (h : (Instr.entry u).run P w = .ok v w) : Runs P N D M o w (.value v) w := fun ac F => by
  unfold execOp
  simp only [ho, F.ev hx, Sem.run_bind, Sem.run_pure, h, Result.andThen_ok]
end
end Go.Proofs.Ytcmgpfahpmkeoaa

/- Equal structs and arrays of integers, truth values, strings, and of such: cell by cell. Over any program. -/
namespace Go.Proofs.Ytcmgpfahpmkeoaa
set_option linter.unusedVariables false
set_option linter.unusedSimpArgs false
open Go.RowKit Go.Shelf
section
variable {P : Program}
def eqF (P : Program) (g : TypeId → List Value → List Value → Option (List Bool)) (xs ys : List Value) : List Field → Option (List Bool)
  | [] => some []
  | f :: fs => if f.name = "_" then none else match g f.type ((xs.drop f.offset).take (P.cellsOf f.type)) ((ys.drop f.offset).take (P.cellsOf f.type)), eqF P g xs ys fs with
    | some a, some b => some (a ++ b)
    | _, _ => none
def eqI (g : List Value → List Value → Option (List Bool)) (c : Nat) (xs ys : List Value) : List Nat → Option (List Bool)
  | [] => some []
  | i :: is => match g ((xs.drop (i * c)).take c) ((ys.drop (i * c)).take c), eqI g c xs ys is with
    | some a, some b => some (a ++ b)
    | _, _ => none
def eqC (P : Program) : Nat → TypeId → List Value → List Value → Option (List Bool)
  | 0, _, _, _ => none
  | d + 1, t, xs, ys => match P.underlying t with
    | some (.struct fs) => if P.stoodInHeld t = true then none else eqF P (eqC P d) xs ys fs.toList
    | some (.array n e) => if n = 0 then none else eqI (eqC P d e) (P.cellsOf e) xs ys (List.range n)
    | some (.int _) => match xs, ys with
      | [.int k a], [.int k' b] => if k = k' then some [decide (a = b)] else none
      | _, _ => none
    | some .bool => match xs, ys with
      | [.bool a], [.bool b] => some [a == b]
      | _, _ => none
    | some .string => match xs, ys with
      | [.string a], [.string b] => some [a.toList == b.toList]
      | _, _ => none
    | _ => none
def valC (P : Program) (t : TypeId) (xs : List Value) : Value := match P.underlying t with
  | some (.struct _) | some (.array _ _) => .agg xs.toArray
  | _ => xs.headD undef
theorem eqC_part {d : Nat} {t : TypeId} {xs ys : List Value} {off : Nat} {bs : List Bool} (h : eqC P d t ((xs.drop off).take (P.cellsOf t)) ((ys.drop off).take (P.cellsOf t)) = some bs) (w : World) :
    (part t xs.toArray off).run P w = .ok (valC P t ((xs.drop off).take (P.cellsOf t))) w ∧ (part t ys.toArray off).run P w = .ok (valC P t ((ys.drop off).take (P.cellsOf t))) w := by
  cases d with
  | zero => cases h
  | succ d =>
    have one : ∀ (zs : List Value) (v : Value), (zs.drop off).take (P.cellsOf t) = [v] → zs.toArray[off]? = some v := by
      intro zs v hz
      have : ((zs.drop off).take (P.cellsOf t))[0]? = some v := by rw [hz]; rfl
      rw [List.getElem?_take] at this
      split at this
      · simpa using this
      · cases this
    have agg : ∀ zs : List Value, zs.toArray.extract off (off + P.cellsOf t) = ((zs.drop off).take (P.cellsOf t)).toArray := by
      intro zs
      simp [List.extract]
    cases hu : P.underlying t with
    | none => simp [eqC, hu] at h
    | some kd =>
      obtain ⟨i, hi⟩ := info_of_underlying hu
      cases kd <;> simp only [eqC, hu] at h <;> try (cases h; done)
      case bool =>
        split at h
        · rename_i a b e1 e2
          rw [e1, e2]
          simp [part, isAgg, run_underlying hu, valC, hu, one xs _ e1, one ys _ e2]
        · cases h
      case int =>
        split at h
        · rename_i a b e1 e2
          rw [e1, e2]
          simp [part, isAgg, run_underlying hu, valC, hu, one xs _ e1, one ys _ e2]
        · cases h
      case string =>
        split at h
        · rename_i a b e1 e2
          rw [e1, e2]
          simp [part, isAgg, run_underlying hu, valC, hu, one xs _ e1, one ys _ e2]
        · cases h
      case struct fs => simp [part, isAgg, run_underlying hu, run_sizeOf _ hi, valC, hu, List.extract]
      case array n e => simp [part, isAgg, run_underlying hu, run_sizeOf _ hi, valC, hu, List.extract]
theorem fieldsOf_eq {t : TypeId} {fs : Array Field} (h : P.underlying t = some (.struct fs)) : P.fieldsOf t = fs := by simp [Program.fieldsOf, h]
theorem run_eqF {d dd : Nat} {xs ys : List Value} (IH : ∀ t xs ys bs w, eqC P d t xs ys = some bs → (Op.equalIn dd t (valC P t xs) (valC P t ys)).run P w = .ok (bs.all id) w) :
    ∀ (fs : List Field) (bs : List Bool) (w : World), eqF P (eqC P d) xs ys fs = some bs → (Op.eqFields dd xs.toArray ys.toArray fs).run P w = .ok (bs.all id) w
  | [], bs, w, h => by simp only [eqF, Option.some.injEq] at h; subst h; simp [Op.eqFields]
  | f :: fs, bs, w, h => by
    simp only [eqF] at h
    split at h
    · cases h
    rename_i hn
    split at h
    · rename_i a b h1 h2
      cases h
      obtain ⟨p1, p2⟩ := eqC_part h1 w
      simp only [Op.eqFields, ne_eq, hn, not_false_eq_true, if_true, Sem.run_bind, p1, p2, Result.andThen_ok, IH _ _ _ _ w h1, List.all_append]
      cases ha : a.all id
      · simp
      · simpa using run_eqF IH fs b w h2
    · cases h
theorem run_eqI {d dd : Nat} {e : TypeId} {xs ys : List Value} (IH : ∀ t xs ys bs w, eqC P d t xs ys = some bs → (Op.equalIn dd t (valC P t xs) (valC P t ys)).run P w = .ok (bs.all id) w) :
    ∀ (is : List Nat) (bs : List Bool) (w : World), eqI (eqC P d e) (P.cellsOf e) xs ys is = some bs → (Op.eqItems dd e (P.cellsOf e) xs.toArray ys.toArray is).run P w = .ok (bs.all id) w
  | [], bs, w, h => by simp only [eqI, Option.some.injEq] at h; subst h; simp [Op.eqItems]
  | i :: is, bs, w, h => by
    simp only [eqI] at h
    split at h
    · rename_i a b h1 h2
      cases h
      obtain ⟨p1, p2⟩ := eqC_part h1 w
      simp only [Op.eqItems, Sem.run_bind, p1, p2, Result.andThen_ok, IH _ _ _ _ w h1, List.all_append]
      cases ha : a.all id
      · simp
      · simpa using run_eqI IH is b w h2
    · cases h
theorem run_eqC : ∀ (d k : Nat) (t : TypeId) (xs ys : List Value) (bs : List Bool) (w : World), eqC P d t xs ys = some bs → (Op.equalIn (d + k) t (valC P t xs) (valC P t ys)).run P w = .ok (bs.all id) w
  | 0, _, _, _, _, _, _, h => by cases h
  | d + 1, k, t, xs, ys, bs, w, h => by
    have IH := fun t xs ys bs w => run_eqC d k t xs ys bs w
    rw [show d + 1 + k = (d + k) + 1 by omega]
    cases hu : P.underlying t with
    | none => simp [eqC, hu] at h
    | some kd =>
      cases kd <;> simp only [eqC, hu] at h <;> try (cases h; done)
      case bool =>
        split at h
        · rename_i a b
          cases h
          simp [valC, hu, run_equalIn_bool' w (d + k) t a b hu]
        · cases h
      case int q =>
        split at h
        · rename_i k1 a k2 b
          split at h
          · rename_i hk
            subst hk
            cases h
            simp only [valC, hu, List.headD_cons, List.all_cons, List.all_nil, Bool.and_true, id]
            exact run_equalIn_int w (d + k) t k1 q a b hu
          · cases h
        · cases h
      case string =>
        split at h
        · rename_i a b
          cases h
          simp [valC, hu, run_equalIn_string w (d + k) t a b hu]
        · cases h
      case struct fs =>
        split at h
        · cases h
        rename_i hst
        simp only [valC, hu]
        have hf := fieldsOf_eq hu
        rw [run_equalIn_struct w (d + k) t _ _ (by rw [hf]; exact hu) (by simpa using hst), hf]
        exact run_eqF IH _ _ _ h
      case array n e =>
        split at h
        · cases h
        rename_i hn0
        cases n with
        | zero => exact absurd rfl hn0
        | succ n =>
          have hi : ∃ i, P.info? e = some i := by
            rw [show List.range (n + 1) = 0 :: (List.range n).map Nat.succ by rw [List.range_succ_eq_map]] at h
            simp only [eqI] at h
            split at h
            · rename_i a b h1 h2
              cases d with
              | zero => cases h1
              | succ d =>
                cases hue : P.underlying e with
                | none => simp [eqC, hue] at h1
                | some _ => exact info_of_underlying hue
            · cases h
          obtain ⟨i, hi⟩ := hi
          simp only [valC, hu]
          rw [run_equalIn_array w (d + k) _ _ hu hi]
          exact run_eqI IH _ _ _ h
theorem valC_agg {t : TypeId} {xs : List Value} (h : aggB P t = true) : valC P t xs = .agg xs.toArray := by
  unfold aggB at h
  unfold valC
  split at h <;> first | rfl | simp_all
variable {n : Nat} {D : List Deferred} {M : Slots} {w : World} {o : Oper} {x y : Operand} {t u : TypeId} {xs ys : List Value} {bs : List Bool} {p : Prop} [Decidable p]
theorem R.eqBsS (ho : o.op = .binOp .eql t x y u) (hx : evM M x = some (.agg xs.toArray)) (hy : evM M y = some (.agg ys.toArray)) (ht : aggB P t = true) (hg : P.eqGuardType P.depth t = false) (hb : eqC P 9 t xs ys = some bs) (hp : bs.all id = decide p) : Runs P n D M o w (.value (.bool (decide p))) w := R.bin ho hx hy (by
  have h := run_eqC 9 9991 t xs ys bs w hb
  rw [valC_agg ht, valC_agg ht] at h
  simp only [Sem.run_bind, run_eqGuard_agg w _ _ _ _ _ _ hg, Result.andThen_ok, run_eql_struct]
  rw [show (10000 : Nat) = 9 + 9991 from rfl, h, hp]
  rfl)
theorem R.neS' (ho : o.op = .binOp .neq t x y u) (hx : evM M x = some (.agg xs.toArray)) (hy : evM M y = some (.agg ys.toArray)) (ht : aggB P t = true) (hg : P.eqGuardType P.depth t = false) (hb : eqC P 9 t xs ys = some bs) (hp : bs.all id = decide p) : Runs P n D M o w (.value (.bool (decide ¬p))) w := R.bin ho hx hy (by
  have h := run_eqC 9 9991 t xs ys bs w hb
  rw [valC_agg ht, valC_agg ht] at h
  simp only [Sem.run_bind, run_eqGuard_agg w _ _ _ _ _ _ hg, Result.andThen_ok, run_neq_struct]
  rw [show (10000 : Nat) = 9 + 9991 from rfl, h, hp]
  simp)
theorem R.eqST (ho : o.op = .binOp .eql t x y u) (hx : evM M x = some (.agg xs.toArray)) (hy : evM M y = some (.agg ys.toArray)) (ht : aggB P t = true) (hg : P.eqGuardType P.depth t = false) (hb : eqC P 9 t xs ys = some bs) (hp : bs.all id = decide p) (h : p) : Runs P n D M o w (.value (.bool true)) w := by
  have := R.eqBsS (w := w) (n := n) (D := D) ho hx hy ht hg hb hp
  rwa [decide_eq_true h] at this
theorem R.eqSF (ho : o.op = .binOp .eql t x y u) (hx : evM M x = some (.agg xs.toArray)) (hy : evM M y = some (.agg ys.toArray)) (ht : aggB P t = true) (hg : P.eqGuardType P.depth t = false) (hb : eqC P 9 t xs ys = some bs) (hp : bs.all id = decide p) (h : ¬p) : Runs P n D M o w (.value (.bool false)) w := by
  have := R.eqBsS (w := w) (n := n) (D := D) ho hx hy ht hg hb hp
  rwa [decide_eq_false h] at this
theorem R.neST (ho : o.op = .binOp .neq t x y u) (hx : evM M x = some (.agg xs.toArray)) (hy : evM M y = some (.agg ys.toArray)) (ht : aggB P t = true) (hg : P.eqGuardType P.depth t = false) (hb : eqC P 9 t xs ys = some bs) (hp : bs.all id = decide p) (h : p) : Runs P n D M o w (.value (.bool false)) w := by
  have := R.neS' (w := w) (n := n) (D := D) ho hx hy ht hg hb hp
  rwa [decide_eq_false (not_not_intro h)] at this
theorem R.neSF (ho : o.op = .binOp .neq t x y u) (hx : evM M x = some (.agg xs.toArray)) (hy : evM M y = some (.agg ys.toArray)) (ht : aggB P t = true) (hg : P.eqGuardType P.depth t = false) (hb : eqC P 9 t xs ys = some bs) (hp : bs.all id = decide p) (h : ¬p) : Runs P n D M o w (.value (.bool true)) w := by
  have := R.neS' (w := w) (n := n) (D := D) ho hx hy ht hg hb hp
  rwa [decide_eq_true h] at this
end
end Go.Proofs.Ytcmgpfahpmkeoaa

/- Arrays of numbers, in a row and as values. Over any program. -/
namespace Go.Proofs.Ytcmgpfahpmkeoaa
set_option linter.unusedVariables false
set_option linter.unusedSimpArgs false
open Go.RowKit Go.Shelf
/-- Whole numbers of a kind. -/
abbrev intsZ (k : IntKind) (ns : List Int) : List Value := ns.map fun z : Int => Value.int k z
section
variable {P : Program} {w w' : World} {t : TypeId} {o : Oper} {x y : Operand} {n : Nat} {D : List Deferred} {M : Slots} {r : Option Nat} {ops : Array Oper} {Q : Exit → Act → World → Prop} {rest : List Oper}
def avB (P : Program) (t : TypeId) (n : Nat) : Bool := match P.underlying t with
  | some (.array m e) => m == n && (P.plainKey e && (szB P e == some 1))
  | _ => false
theorem I.ixV {i : Nat} {cs : Array Value} {v : Value} (h : avB P t n = true) (hi : i < n) (hv : cs[i]? = some v) : (Instr.index t (.agg cs) (.int .i64 (i : Int))).run P w = .ok v w := by
  unfold avB at h
  cases hu : P.underlying t with
  | none => rw [hu] at h; cases h
  | some u =>
    rw [hu] at h
    cases u <;> try (cases h; done)
    rename_i m e
    simp only [Bool.and_eq_true, beq_iff_eq] at h
    obtain ⟨rfl, he, hz⟩ := h
    have h1 : (i : Int) < (m : Int) := by omega
    have := run_part_plain (P := P) w he hv
    simp [Instr.index, asIntOf, run_underlying hu, h1, size_of_sz hz, this]
    exact fun hh => absurd hi (by omega)
/-- An element of an array's value. -/
theorem R.ixZ {i m : Nat} {k : IntKind} {ns : List Int} {z : Int} (ho : o.op = .index t x y) (hx : evM M x = some (.agg (intsZ k ns).toArray)) (hy : evM M y = some (.int .i64 (i : Int))) (h : avB P t m = true) (hl : ns.length = m) (hv : ns[i]? = some z) : Runs P n D M o w (.value (.int k z)) w :=
  R.indexV ho hx hy (I.ixV h (by have := (List.getElem?_eq_some_iff.1 hv).1; omega) (by simp [hv]))
theorem R.ixVc {i m : Nat} {cs : Array Value} {v : Value} (hlit : Nat.ble i 18446744073709551616 = true) (ho : o.op = .index t x y) (hx : evM M x = some (.agg cs)) (hy : evM M y = some (.int .i64 (@OfNat.ofNat Int i instOfNat))) (hm : arB P t = some (m, 1)) (h : avB P t m = true) (hi : Nat.blt i m = true) (hv : cs[i]? = some v) : Runs P n D M o w (.value v) w :=
  R.indexV ho hx hy (I.ixV (i := i) h (by simpa [Nat.blt_eq] using hi) hv)
/-- All of an array's row. -/
theorem R.loadZ {g e m : Nat} {k : IntKind} {ns : List Int} (ho : o.op = .load t x) (hx : evM M x = some (.pointer (some ⟨g, 0, none⟩))) (hr : RowL w g e (intsZ k ns)) (ha : aggB P t = true) (hz : szB P t = some m) (hl : ns.length = m) : Runs P n D M o w (.value (.agg (intsZ k ns).toArray)) w :=
  R.load ho hx (I.ldNc (RowL.cells0 hr) ha (by rw [hz, List.length_map, hl]))
/-- A store into an array's row. -/
theorem LL.storeZ {g off e i : Nat} {k : IntKind} {ns : List Int} {z : Int} (ho : o.op = .store t x y) (hx : evM M x = some (.pointer (some ⟨g, off, none⟩))) (hoff : off = i) (hy : evM M y = some (.int k z)) (hz : szB P t = some 1) (hr : RowL w g e (intsZ k ns)) (hi : i < ns.length) (hd : o.dst = none) (hg : wantB ops M o.guard = some true)
    (kk : ∀ w', RowL w' g e (intsZ k (ns.set i z)) → w.grownBy w' (some g) → w'.heap.size = w.heap.size → LL r P ops Q n D M rest w') : LL r P ops Q n D M (o :: rest) w := by
  subst hoff
  refine LL.store ho hx hy hz hr (by rw [List.length_map]; exact hi) rfl rfl hd hg ?_
  intro w' r' g' z'
  refine kk w' ?_ g' z'
  rw [show intsZ k (ns.set off z) = (intsZ k ns).set off (.int k z) from List.map_set ..]
  exact r'
/-- A store of a whole array. -/
theorem LL.storeAZ {g e m : Nat} {k : IntKind} {ns : List Int} {xs : List Value} (ho : o.op = .store t x y) (hx : evM M x = some (.pointer (some ⟨g, 0, none⟩))) (hy : evM M y = some (.agg (intsZ k ns).toArray)) (hz : szB P t = some m) (hl : ns.length = m) (hr : RowL w g e xs) (hxl : xs.length = m) (hd : o.dst = none) (hg : wantB ops M o.guard = some true)
    (kk : ∀ w', RowL w' g e (intsZ k ns) → w.grownBy w' (some g) → w'.heap.size = w.heap.size → LL r P ops Q n D M rest w') : LL r P ops Q n D M (o :: rest) w := by
  refine LL.storeN (vs := intsZ k ns) ho hx hy (by rw [hz, List.length_map, hl]) hr (by rw [List.length_map]; omega) (fun u hu => by simp only [List.mem_map] at hu; obtain ⟨z, _, rfl⟩ := hu; rfl) hd hg ?_
  intro w' r' g' z'
  refine kk w' ?_ g' z'
  have e1 : xs.take 0 ++ (intsZ k ns) ++ xs.drop (0 + (intsZ k ns).length) = intsZ k ns := by
    rw [List.drop_of_length_le (by rw [List.length_map]; omega)]
    simp
  first
    | (rw [← e1]; exact r')
    | (have := r'; simp only [List.take_zero, List.nil_append, Nat.zero_add, List.length_map] at this; rw [List.drop_of_length_le (by omega), List.append_nil] at this; exact this)
theorem ZR.storeZ {ok : World → Prop} {j : Nat} {K : Slots → World → Prop} {g off e i : Nat} {k : IntKind} {ns : List Int} {z : Int} (hj : ops[j]? = some o) (ho : o.op = .store t x y) (hx : evM M x = some (.pointer (some ⟨g, off, none⟩))) (hoff : off = i) (hy : evM M y = some (.int k z)) (hz : szB P t = some 1) (hr : RowL w g e (intsZ k ns)) (hi : i < ns.length) (hd : o.dst = none) (hg : wantB ops M o.guard = some true)
    (kk : ∀ w', RowL w' g e (intsZ k (ns.set i z)) → w.grownBy w' (some g) → w'.heap.size = w.heap.size → ok w' ∧ K M w') : SR P ops ok j K n D M w := by
  subst hoff
  refine ZR.store hj ho hx hy hz hr (by rw [List.length_map]; exact hi) rfl rfl hd hg ?_
  intro w' r' g' z'
  refine kk w' ?_ g' z'
  rw [show intsZ k (ns.set off z) = (intsZ k ns).set off (.int k z) from List.map_set ..]
  exact r'
theorem ZR.storeAZ {ok : World → Prop} {j : Nat} {K : Slots → World → Prop} {g e m : Nat} {k : IntKind} {ns : List Int} {xs : List Value} (hj : ops[j]? = some o) (ho : o.op = .store t x y) (hx : evM M x = some (.pointer (some ⟨g, 0, none⟩))) (hy : evM M y = some (.agg (intsZ k ns).toArray)) (hz : szB P t = some m) (hl : ns.length = m) (hr : RowL w g e xs) (hxl : xs.length = m) (hd : o.dst = none) (hg : wantB ops M o.guard = some true)
    (kk : ∀ w', RowL w' g e (intsZ k ns) → w.grownBy w' (some g) → w'.heap.size = w.heap.size → ok w' ∧ K M w') : SR P ops ok j K n D M w := by
  refine ZR.storeN (vs := intsZ k ns) hj ho hx hy (by rw [hz, List.length_map, hl]) hr (by rw [List.length_map]; omega) (fun u hu => by simp only [List.mem_map] at hu; obtain ⟨z, _, rfl⟩ := hu; rfl) hd hg ?_
  intro w' r' g' z'
  refine kk w' ?_ g' z'
  have e1 : xs.take 0 ++ (intsZ k ns) ++ xs.drop (0 + (intsZ k ns).length) = intsZ k ns := by
    rw [List.drop_of_length_le (by rw [List.length_map]; omega)]
    simp
  rw [← e1]
  exact r'
theorem lvZ {g e m : Nat} {k : IntKind} {ns : List Int} (hr : RowL w g e (intsZ k ns)) (ha : aggB P t = true) (hz : szB P t = some m) (hl : ns.length = m) : (loadVar t ⟨g, 0, none⟩).run P w = .ok (.agg (intsZ k ns).toArray) w :=
  lvNc (RowL.cells0 hr) ha (by rw [hz, List.length_map, hl])
/-- A piece of an array as a slice. -/
theorem I.slAP {m k b off lo hi : Nat} (h : arB P t = some (m, k)) (h1 : lo ≤ hi) (h2 : hi ≤ m) : ∃ a, (∀ w : World, (Instr.sliceAt t (.pointer (some ⟨b, off, none⟩)) (some (.int .i64 (lo : Int))) (some (.int .i64 (hi : Int))) none).run P w = .ok (.slice (some a) (hi - lo) (m - lo)) w) ∧ (lo < hi → a = ⟨b, off + lo * k, none⟩) := by
  obtain ⟨e, hu, hz⟩ := ar_of h
  have h3 : (hi : Int) ≤ (m : Int) := by omega
  have h4 : (lo : Int) ≤ (hi : Int) := by omega
  refine ⟨if m = lo then ⟨b, off, none⟩ else (⟨b, off, none⟩ : Addr).add (lo * k), fun w => ?_, fun hlt => ?_⟩
  · unfold Instr.sliceAt Instr.sureAddr Instr.sliceBounds
    simp [run_underlying hu, run_sliceBound, size_of_sz hz, h3, h4]
  · rw [if_neg (by omega), add_plain]
end
end Go.Proofs.Ytcmgpfahpmkeoaa

/- Equal arrays of numbers. Over any program. -/
namespace Go.Proofs.Ytcmgpfahpmkeoaa
set_option linter.unusedVariables false
set_option linter.unusedSimpArgs false
open Go.RowKit Go.Shelf
section
variable {P : Program} {w : World} {n : Nat} {D : List Deferred} {M : Slots} {o : Oper} {x y : Operand} {t u : TypeId}
theorem eqI_ints {d : Nat} {e : TypeId} {k kk : IntKind} {xa xb : List Int} (he : P.underlying e = some (.int kk)) : ∀ (is : List Nat), (∀ i ∈ is, i < xa.length ∧ i < xb.length) →
    ∃ cs, eqI (eqC P (d + 1) e) 1 (intsZ k xa) (intsZ k xb) is = some cs ∧ (cs.all id = true ↔ ∀ i ∈ is, xa[i]? = xb[i]?)
  | [], _ => ⟨[], rfl, by simp⟩
  | i :: is, h => by
    obtain ⟨cs, h1, h2⟩ := eqI_ints (d := d) (k := k) he is fun j hj => h j (by simp [hj])
    obtain ⟨ha, hb⟩ := h i (by simp)
    have g : ∀ (zs : List Int) (hz : i < zs.length), ((intsZ k zs).drop (i * 1)).take 1 = [.int k zs[i]] := fun zs hz => by
      rw [Nat.mul_one, List.drop_eq_getElem_cons (by simpa using hz)]
      simp
    refine ⟨[decide (xa[i] = xb[i])] ++ cs, ?_, ?_⟩
    · simp only [eqI, g xa ha, g xb hb, h1]
      simp [eqC, he]
    · simp only [List.all_append, List.all_cons, List.all_nil, id, Bool.and_true, Bool.and_eq_true, decide_eq_true_eq, h2, List.mem_cons, forall_eq_or_imp]
      rw [List.getElem?_eq_getElem ha, List.getElem?_eq_getElem hb]
      simp
theorem eqC_ints {m : Nat} {e : TypeId} {k kk : IntKind} {xa xb : List Int} (hu : P.underlying t = some (.array m e)) (he : P.underlying e = some (.int kk)) (hc : P.cellsOf e = 1) (hm : m ≠ 0) (ha : xa.length = m) (hb : xb.length = m) : ∃ cs, eqC P 9 t (intsZ k xa) (intsZ k xb) = some cs ∧ cs.all id = decide (xa = xb) := by
  obtain ⟨cs, h1, h2⟩ := eqI_ints (P := P) (d := 7) (k := k) (xa := xa) (xb := xb) he (List.range m) fun i hi => by
    have := List.mem_range.1 hi
    omega
  refine ⟨cs, ?_, ?_⟩
  · show eqC P (8 + 1) t _ _ = _
    simp only [eqC, hu, hm, if_false, hc]
    exact h1
  · rw [Bool.eq_iff_iff, h2, decide_eq_true_eq]
    constructor
    · intro h
      refine List.ext_getElem? fun i => ?_
      by_cases hi : i < m
      · exact h i (List.mem_range.2 hi)
      · rw [List.getElem?_eq_none (by omega), List.getElem?_eq_none (by omega)]
    · rintro rfl i _
      rfl
theorem R.eqZT {m : Nat} {e : TypeId} {k kk : IntKind} {xa xb : List Int} (ho : o.op = .binOp .eql t x y u) (hx : evM M x = some (.agg (intsZ k xa).toArray)) (hy : evM M y = some (.agg (intsZ k xb).toArray)) (hu : P.underlying t = some (.array m e)) (he : P.underlying e = some (.int kk)) (hc : P.cellsOf e = 1) (hm : m ≠ 0) (ht : aggB P t = true) (hg : P.eqGuardType P.depth t = false) (ha : xa.length = m) (hb : xb.length = m) (h : xa = xb) : Runs P n D M o w (.value (.bool true)) w := by
  obtain ⟨cs, h1, h2⟩ := eqC_ints (k := k) hu he hc hm ha hb
  exact R.eqST ho hx hy ht hg h1 h2 h
theorem R.eqZF {m : Nat} {e : TypeId} {k kk : IntKind} {xa xb : List Int} (ho : o.op = .binOp .eql t x y u) (hx : evM M x = some (.agg (intsZ k xa).toArray)) (hy : evM M y = some (.agg (intsZ k xb).toArray)) (hu : P.underlying t = some (.array m e)) (he : P.underlying e = some (.int kk)) (hc : P.cellsOf e = 1) (hm : m ≠ 0) (ht : aggB P t = true) (hg : P.eqGuardType P.depth t = false) (ha : xa.length = m) (hb : xb.length = m) (h : xa ≠ xb) : Runs P n D M o w (.value (.bool false)) w := by
  obtain ⟨cs, h1, h2⟩ := eqC_ints (k := k) hu he hc hm ha hb
  exact R.eqSF ho hx hy ht hg h1 h2 h
theorem R.neZT {m : Nat} {e : TypeId} {k kk : IntKind} {xa xb : List Int} (ho : o.op = .binOp .neq t x y u) (hx : evM M x = some (.agg (intsZ k xa).toArray)) (hy : evM M y = some (.agg (intsZ k xb).toArray)) (hu : P.underlying t = some (.array m e)) (he : P.underlying e = some (.int kk)) (hc : P.cellsOf e = 1) (hm : m ≠ 0) (ht : aggB P t = true) (hg : P.eqGuardType P.depth t = false) (ha : xa.length = m) (hb : xb.length = m) (h : xa = xb) : Runs P n D M o w (.value (.bool false)) w := by
  obtain ⟨cs, h1, h2⟩ := eqC_ints (k := k) hu he hc hm ha hb
  exact R.neST ho hx hy ht hg h1 h2 h
theorem R.neZF {m : Nat} {e : TypeId} {k kk : IntKind} {xa xb : List Int} (ho : o.op = .binOp .neq t x y u) (hx : evM M x = some (.agg (intsZ k xa).toArray)) (hy : evM M y = some (.agg (intsZ k xb).toArray)) (hu : P.underlying t = some (.array m e)) (he : P.underlying e = some (.int kk)) (hc : P.cellsOf e = 1) (hm : m ≠ 0) (ht : aggB P t = true) (hg : P.eqGuardType P.depth t = false) (ha : xa.length = m) (hb : xb.length = m) (h : xa ≠ xb) : Runs P n D M o w (.value (.bool true)) w := by
  obtain ⟨cs, h1, h2⟩ := eqC_ints (k := k) hu he hc hm ha hb
  exact R.neSF ho hx hy ht hg h1 h2 h
end
end Go.Proofs.Ytcmgpfahpmkeoaa

/- append(l, make([]T, n)...): onto a slice of the call's own, of elements of one cell. Over any program. -/
namespace Go.Proofs.Ytcmgpfahpmkeoaa
set_option linter.unusedVariables false
set_option linter.unusedSimpArgs false
open Go.RowKit Go.Shelf
section
variable {P : Program} {w : World} {T TI e : TypeId} {z : Value} {bytes : Nat} {kn : IntKind}
theorem zeroCells_one (m : Nat) : (Builtin.zeroCells #[z] m).toList = List.replicate m z := by
  apply List.ext_getElem?
  intro j
  unfold Builtin.zeroCells
  simp only [List.size_toArray, List.length_cons, List.length_nil, Nat.zero_add, Nat.mul_one, Nat.mod_one, Array.toList_map, Array.toList_range, List.getElem?_map, List.getElem?_replicate]
  rcases Nat.lt_or_ge j m with h | h
  · simp [h]
  · simp [Nat.not_lt.2 h]
theorem run_append_zeros (I : El P T e z bytes) (htn : P.underlying TI = some (.int kn)) (hz1 : z.oneCell' = true) (ty : TypeId) {base n m : Nat} {v : Value} {xs : List Value} (hown : w.ownsRow base e 1 v n xs)
    (hm : 0 < m) (h63 : n + m ≤ maxLen) (hb : (n + m) * bytes ≤ 140737488355328) (hbase : base ≤ w.heap.size) :
    ∃ v' w', (Builtin.append_ #[T, TI] ty #[v, .int .i64 (m : Int)]).run P w = .ok v' w' ∧ w'.ownsRow base e 1 v' (n + m) (xs ++ List.replicate m z) ∧ w.grownBy w' v.ownBlock ∧ (v'.ownBlock = v.ownBlock ∨ v'.ownBlock = some w.heap.size) := by
  obtain ⟨i, hi, hz, hsize, hby⟩ := I.info
  have hsmall : n + m ≤ 9223372036854775807 := by simp only [maxLen] at h63; omega
  have hmb : m * bytes ≤ 140737488355328 := Nat.le_trans (Nat.mul_le_mul_right _ (by omega)) hb
  have hlen : (xs ++ List.replicate m z).length = (n + m) * 1 := by rw [List.length_append, hown.1, List.length_replicate]; omega
  have hzc : Builtin.zeroCells z.cells m = (List.replicate m z).toArray := by rw [I.one, ← zeroCells_one]
  have grown : ∀ (old : Nat), old < n + m → ∀ (row : Option Nat),
      (w.drew.alloc (.cells (xs.toArray ++ Builtin.zeroCells z.cells m ++ Builtin.zeroCells z.cells (grownCap w (n + m) old e - (n + m))) e)).ownsRow base e 1
        (.slice (some ⟨w.heap.size, 0, none⟩) (n + m) (grownCap w (n + m) old e)) (n + m) (xs ++ List.replicate m z) ∧
      w.grownBy (w.drew.alloc (.cells (xs.toArray ++ Builtin.zeroCells z.cells m ++ Builtin.zeroCells z.cells (grownCap w (n + m) old e - (n + m))) e)) row := by
    intro old ho row
    have hge := grownCap_ge w (n + m) old e
    have hcm : grownCap w (n + m) old e ≤ maxLen := grownCap_le_maxLen w (n + m) old e h63
    refine ⟨⟨hlen, .inr ⟨w.heap.size, _, _, rfl, hbase, heap_alloc_new w.drew _, hge, hcm, ?_, ?_⟩⟩, ⟨rfl, rfl, rfl, by simp, fun k hk _ => by first | exact heap_alloc_old w.drew _ k hk | exact heap_alloc_old w.drew _ hk⟩⟩
    · have := hown.1
      simp only [Array.size_append, List.size_toArray, size_zeroCells, I.one, List.length_cons, List.length_nil]
      omega
    · rw [hzc]
      simp only [Array.toList_append, List.toList_toArray]
      rw [← hlen]
      exact List.take_left
  rcases hown.2 with ⟨rfl, rfl⟩ | ⟨g, cap, cur, rfl, hbg, hg, hnc, hcm, hcs, htake⟩
  · have hx : xs = [] := List.eq_nil_of_length_eq_zero (by simpa using hown.1)
    subst hx
    have hr := Lib.run_append_nil_zeros (P := P) w T TI ty e i z .i64 kn I.under htn hi hz m hm (by omega) (by omega) (by rw [hby]; omega)
    have hgr := grown 0 (by omega) (Value.ownBlock (.slice none 0 0))
    simp only [Nat.zero_add, List.nil_append] at hgr ⊢
    refine ⟨_, _, hr, ?_, ?_, Or.inr rfl⟩
    · simpa using hgr.1
    · simpa using hgr.2
  · by_cases hroom : n + m ≤ cap
    · have hneg : ¬ ((m : Int) < 0) := by omega
      have hw : IntKind.i64.wrap (m : Int) = m := wrapI (by omega) (by omega)
      have hm0 : m ≠ 0 := by omega
      have h48i : ¬ (281474976710656 < (m : Int) * (i.bytes : Int)) := by
        rw [← Int.natCast_mul, hby]
        omega
      have hst := run_storeCells_at P g n e (List.replicate m z) 0 cur w hg (by simp; omega) (by intro u hu; rw [List.eq_of_mem_replicate hu]; exact hz1)
      simp only [Nat.add_zero, List.length_replicate] at hst
      refine ⟨.slice (some ⟨g, 0, none⟩) (n + m) cap, w.setRow g (cur.toList.take n ++ List.replicate m z ++ cur.toList.drop (n + m)).toArray, ?_, ?_, ?_, Or.inl rfl⟩
      · have h0 : ¬ (m * i.size = 0) := by rw [hsize]; omega
        simp [Builtin.append_, run_underlying I.under, run_underlying htn, sizeOf, typeInfo, zeroValue, hi, hz, asInt, asIntOf, hw, hneg, h48i, hsize, hm0, hroom, hzc, Addr.add_lit, hst]
      · refine ⟨hlen, .inr ⟨g, cap, _, rfl, hbg, setRow_heap w g cur _ e _ hg, hroom, hcm, ?_, ?_⟩⟩
        · simp only [List.size_toArray, List.length_append, List.length_take, List.length_drop, Array.length_toList, List.length_replicate]
          omega
        · rw [Nat.mul_one] at htake
          rw [htake, ← hlen]
          simp only [List.toList_toArray]
          exact List.take_left
      · exact ⟨rfl, rfl, rfl, by simp, fun k _ hk => setRow_other w g k _ (fun e => hk (by simp [Value.ownBlock, e]))⟩
    · have holds : ∀ j u, xs[j]? = some u → w.cell? ((⟨g, 0, none⟩ : Addr).add j) = some u := hown.cells (g := g) rfl
      have hold : (Builtin.firstCells i.size n (.slice (some ⟨g, 0, none⟩) n cap)).run P w.drew = .ok xs.toArray w.drew := by
        have := run_firstCells_some (P := P) w.drew i.size n ⟨g, 0, none⟩ n cap xs (by rw [hown.1, hsize]) holds
        exact this
      have hr := Lib.run_append_grow_zeros (P := P) w T TI ty e i z .i64 kn I.under htn hi hz (some ⟨g, 0, none⟩) n cap xs hold m hm (by omega) (by omega) (by omega) (by rw [hby]; omega) (by rw [hby]; exact growslice_fits (by omega) hb)
      have hgr := grown cap (by omega) (Value.ownBlock (.slice (some ⟨g, 0, none⟩) n cap))
      exact ⟨_, _, hr, hgr.1, hgr.2, Or.inr rfl⟩
theorem RowL.asInts {g n : Nat} {xs : List Value} (h : RowL w g e xs) (k : IntKind) (ws : List Nat) (hx : xs = ints k ws) (hn : ws.length = n) : Reads w (.slice (some ⟨g, 0, none⟩) n n) (ints k ws) := by
  subst hx
  have := h.reads ws.length (by simp)
  rw [List.length_map, hn] at this
  exact this
variable {o : Oper} {n : Nat} {D : List Deferred} {M : Slots} {r : Option Nat} {ops : Array Oper} {Q : Exit → Act → World → Prop} {rest : List Oper}
theorem LL.zeros {xs : Array Operand} {v : Value} {base m l : Nat} {us : List Value} (ho : o.op = .call { callee := .builtin .append, args := xs, argTypes := #[T, TI] }) (hx : evsM M xs.toList = some [v, .int .i64 (m : Int)]) (I : El P T e z bytes) (htn : P.underlying TI = some (.int kn)) (hz1 : z.oneCell' = true) (hown : w.ownsRow base e 1 v l us)
    (hm : 0 < m) (h63 : l + m ≤ maxLen) (hb : (l + m) * bytes ≤ 140737488355328) (hbase : base ≤ w.heap.size) (hd : dstB n o.dst = true) (hg : wantB ops M o.guard = some true)
    (c : ∀ v' w', w'.ownsRow base e 1 v' (l + m) (us ++ List.replicate m z) → w.grownBy w' v.ownBlock → (v'.ownBlock = v.ownBlock ∨ v'.ownBlock = some w.heap.size) → LL r P ops Q n D (putM M o.dst v') rest w') : LL r P ops Q n D M (o :: rest) w := by
  obtain ⟨v', w', h1, h2, h3, h4⟩ := run_append_zeros I htn hz1 o.type hown hm h63 hb hbase
  refine LL.val (v := v') (R.builtin ho hx fun b => ?_) hd (by rw [ho]; rfl) hg (c v' w' h2 h3 h4)
  unfold builtin
  simp only [Sem.run_bind, h1, Result.andThen_ok, Sem.run_pure]
end
end Go.Proofs.Ytcmgpfahpmkeoaa

/- pmem: what a memory is, and its words. pmem: words stored and loaded; what may be named. pmem: Load, Store, Flush, Evict. pmem: moved, flat, on; memories that are made. pmem: memories that are made. pmem: Fence. -/
namespace Go.Proofs.Ytcmgpfahpmkeoaa
set_option linter.unusedVariables false
set_option linter.unusedSimpArgs false
open Go.RowKit Go.Shelf
open Go.MapKept (IsKey)
/-- A line: eight words. -/
abbrev Ln := {l : List Nat // l.length = 8}
/-- What stands, what lasts, what is queued. -/
abbrev Cl := Ln × Ln × Option Ln
def zL : Ln := ⟨List.replicate 8 0, rfl⟩
abbrev lV (x : Ln) : Value := .agg (ints .u64 x.1).toArray
def lE (x : Ln) : List Value := ints .u64 x.1
def nowE (c : Cl) : List Value := lE c.1
def lastE (c : Cl) : List Value := lE c.2.1
def cE (c : Cl) : List Value := lE c.1 ++ (lE c.2.1 ++ (lE (c.2.2.getD zL) ++ [.bool c.2.2.isSome]))
theorem lE_len (x : Ln) : (lE x).length = 8 := by unfold lE; rw [List.length_map, x.2]
theorem lE_one (x : Ln) : ∀ u ∈ lE x, u.oneCell' = true := fun u hu => by
  simp only [lE, List.mem_map] at hu
  obtain ⟨z, _, rfl⟩ := hu
  rfl
theorem lEnc : Enc lE 8 := ⟨lE_len, lE_one, by decide⟩
theorem nowEnc : Enc nowE 8 := ⟨fun _ => lE_len _, fun _ => lE_one _, by decide⟩
theorem lastEnc : Enc lastE 8 := ⟨fun _ => lE_len _, fun _ => lE_one _, by decide⟩
theorem cEnc : Enc cE 25 := ⟨fun c => by simp [cE, lE_len], fun c u hu => by
  simp only [cE, List.mem_append, List.mem_singleton] at hu
  rcases hu with h | h | h | rfl
  · exact lE_one _ u h
  · exact lE_one _ u h
  · exact lE_one _ u h
  · rfl, by decide⟩
abbrev iK (n : Nat) : Value := .int .i64 (n : Int)
theorem iKeys : KeyE Try.prog 3 (.int .i64) iK := ⟨by kernel_rfl, fun _ => rfl, fun a b h => by
  simp only [iK, Value.int.injEq, true_and] at h
  omega⟩
def qF (s : List Cl) : Nat → Option Ln := fun i => (s[i]?).bind (·.2.2)
def nQ (s : List Cl) : Nat := s.countP fun c => c.2.2.isSome
/-- A memory of the program. -/
structure Mem (w : World) (m gn gl qb N : Nat) (s : List Cl) : Prop where
  row : RowL w m 82 [.slice (some ⟨gn, 0, none⟩) N N, .slice (some ⟨gl, 0, none⟩) N N, .map (some qb)]
  now : RowL w gn 85 (s.flatMap nowE)
  last : RowL w gl 85 (s.flatMap lastE)
  qs : MapK (.int .i64) iK lV w qb (nQ s) (qF s)
  len : s.length = N
  pos : 0 < N
  le : N ≤ 16384
  ne : m ≠ gn ∧ m ≠ gl ∧ m ≠ qb ∧ gn ≠ gl ∧ gn ≠ qb ∧ gl ≠ qb
section
variable {w w' : World} {m gn gl qb N : Nat} {s : List Cl}
theorem Mem.up (h : Mem w m gn gl qb N s) (b : Below w.heap.size w w') : Mem w' m gn gl qb N s := ⟨h.row.up b, h.now.up b, h.last.up b, h.qs.up b, h.len, h.pos, h.le, h.ne⟩
theorem Mem.lts (h : Mem w m gn gl qb N s) : m < w.heap.size ∧ gn < w.heap.size ∧ gl < w.heap.size ∧ qb < w.heap.size := ⟨h.row.lt, h.now.lt, h.last.lt, h.qs.lt⟩
theorem Mem.kept {K : Nat → Prop} (h : Mem w m gn gl qb N s) (k : Kept K w w') (h1 : K m) (h2 : K gn) (h3 : K gl) (h4 : K qb) : Mem w' m gn gl qb N s := ⟨h.row.kept k h1, h.now.kept k h2, h.last.kept k h3, h.qs.kept k h4, h.len, h.pos, h.le, h.ne⟩
end
set_option maxRecDepth 100000
theorem none_F (m N : Nat) {a : Option Addr} {c : Nat} {v2 v3 : Value} {w : World} (h : RowL w m 82 [.slice a N c, v2, v3]) (hN : 0 < N) : Calls Try.prog 39 #[.pointer (some ⟨m, 0, none⟩)] w fun e w' => e = .returned (.bool false) ∧ w = w' := by
  refine X.fn Try.func39 rfl (n := 14) rfl rfl ?_
  refine CC.seq ?_
  refine CC.region ?_
  refine LL.val (R.assign rfl rfl) rfl rfl rfl ?_
  refine LL.nilS ?_
  refine CC.seq ?_
  refine CC.region ?_
  refine LL.val (R.move rfl rfl) rfl rfl rfl ?_
  refine LL.val (R.eqPtr rfl rfl rfl rfl rfl) rfl rfl rfl ?_
  refine LL.val (R.move rfl rfl) rfl rfl rfl ?_
  refine LL.val (R.move rfl rfl) rfl rfl rfl ?_
  refine LL.val (R.nil rfl rfl) rfl rfl rfl ?_
  refine LL.val (R.field rfl rfl (I.fld rfl)) rfl rfl rfl ?_
  refine LL.val (R.field rfl rfl (I.fld rfl)) rfl rfl rfl ?_
  refine LL.val (R.load rfl rfl (I.ld1 rfl (RowL.cell h rfl))) rfl rfl rfl ?_
  refine LL.val (R.len rfl rfl rfl rfl) rfl rfl rfl ?_
  refine LL.val (R.eqF rfl rfl rfl (by omega)) rfl rfl rfl ?_
  refine LL.val (R.pick rfl rfl rfl) rfl rfl rfl ?_
  refine LL.val (R.assign rfl rfl) rfl rfl rfl ?_
  refine LL.nilS ?_
  refine CC.ret ?_
  refine EE.ret _ rfl rfl ?_
  exact ⟨rfl, rfl⟩
theorem none_0 (w : World) : Calls Try.prog 39 #[.pointer none] w fun e w' => e = .returned (.bool true) ∧ w = w' := by
  refine X.fn Try.func39 rfl (n := 14) rfl rfl ?_
  refine CC.seq ?_
  refine CC.region ?_
  refine LL.val (R.assign rfl rfl) rfl rfl rfl ?_
  refine LL.nilS ?_
  refine CC.seq ?_
  refine CC.region ?_
  refine LL.val (R.move rfl rfl) rfl rfl rfl ?_
  refine LL.val (R.eqPtr rfl rfl rfl rfl rfl) rfl rfl rfl ?_
  refine LL.val (R.move rfl rfl) rfl rfl rfl ?_
  refine LL.skip rfl rfl ?_
  refine LL.skip rfl rfl ?_
  refine LL.skip rfl rfl ?_
  refine LL.skip rfl rfl ?_
  refine LL.skip rfl rfl ?_
  refine LL.skip rfl rfl ?_
  refine LL.skip rfl rfl ?_
  refine LL.val (R.pick rfl rfl rfl) rfl rfl rfl ?_
  refine LL.val (R.assign rfl rfl) rfl rfl rfl ?_
  refine LL.nilS ?_
  refine CC.ret ?_
  refine EE.ret _ rfl rfl ?_
  exact ⟨rfl, rfl⟩
theorem none_Z (m : Nat) {a : Option Addr} {c : Nat} {v2 v3 : Value} {w : World} (h : RowL w m 82 [.slice a 0 c, v2, v3]) : Calls Try.prog 39 #[.pointer (some ⟨m, 0, none⟩)] w fun e w' => e = .returned (.bool true) ∧ w = w' := by
  refine X.fn Try.func39 rfl (n := 14) rfl rfl ?_
  refine CC.seq ?_
  refine CC.region ?_
  refine LL.val (R.assign rfl rfl) rfl rfl rfl ?_
  refine LL.nilS ?_
  refine CC.seq ?_
  refine CC.region ?_
  refine LL.val (R.move rfl rfl) rfl rfl rfl ?_
  refine LL.val (R.eqPtr rfl rfl rfl rfl rfl) rfl rfl rfl ?_
  refine LL.val (R.move rfl rfl) rfl rfl rfl ?_
  refine LL.val (R.move rfl rfl) rfl rfl rfl ?_
  refine LL.val (R.nil rfl rfl) rfl rfl rfl ?_
  refine LL.val (R.field rfl rfl (I.fld rfl)) rfl rfl rfl ?_
  refine LL.val (R.field rfl rfl (I.fld rfl)) rfl rfl rfl ?_
  refine LL.val (R.load rfl rfl (I.ld1 rfl (RowL.cell h rfl))) rfl rfl rfl ?_
  refine LL.val (R.len rfl rfl rfl rfl) rfl rfl rfl ?_
  refine LL.val (R.eqT rfl rfl rfl (by omega)) rfl rfl rfl ?_
  refine LL.val (R.pick rfl rfl rfl) rfl rfl rfl ?_
  refine LL.val (R.assign rfl rfl) rfl rfl rfl ?_
  refine LL.nilS ?_
  refine CC.ret ?_
  refine EE.ret _ rfl rfl ?_
  exact ⟨rfl, rfl⟩
--C pmem_stand_words | words_any _ _ @p @p | S
theorem words_any (m N : Nat) {a : Option Addr} {c : Nat} {v2 v3 : Value} {w : World} (h : RowL w m 82 [.slice a N c, v2, v3]) (hN : N ≤ 16384) : Calls Try.prog 51 #[.pointer (some ⟨m, 0, none⟩)] w fun e w' => e = .returned (.int .i64 ((N * 8 : Nat) : Int)) ∧ w = w' := by
  refine X.fn Try.func51 rfl (n := 9) rfl rfl ?_
  refine CC.seq ?_
  refine CC.region ?_
  refine LL.val (R.assign rfl rfl) rfl rfl rfl ?_
  refine LL.nilS ?_
  refine CC.seq ?_
  refine CC.region ?_
  refine LL.val (R.move rfl rfl) rfl rfl rfl ?_
  refine LL.val (R.nil rfl rfl) rfl rfl rfl ?_
  refine LL.val (R.field rfl rfl (I.fld rfl)) rfl rfl rfl ?_
  refine LL.val (R.load rfl rfl (I.ld1 rfl (RowL.cell h rfl))) rfl rfl rfl ?_
  refine LL.val (R.len rfl rfl rfl rfl) rfl rfl rfl ?_
  refine LL.val (R.mulNc rfl rfl rfl rfl (by omega)) rfl rfl rfl ?_
  refine LL.val (R.assign rfl rfl) rfl rfl rfl ?_
  refine LL.nilS ?_
  refine CC.ret ?_
  refine EE.ret _ rfl rfl ?_
  exact ⟨rfl, rfl⟩
/-- A line with another word. -/
def wrC (c : Cl) (j v : Nat) : Cl := (⟨c.1.1.set j v, by rw [List.length_set]; exact c.1.2⟩, c.2)
theorem wrC_now (c : Cl) (j v : Nat) : nowE (wrC c j v) = (nowE c).set j (.int .u64 (v : Int)) := by
  unfold nowE lE wrC
  simp only [ints, List.map_set]
theorem set_get {s : List Cl} {i : Nat} {c : Cl} (hc : s[i]? = some c) : s.set i c = s := by
  obtain ⟨h, rfl⟩ := List.getElem?_eq_some_iff.1 hc
  exact List.set_getElem_self h
theorem set_last {s : List Cl} {i : Nat} {c u : Cl} (hc : s[i]? = some c) (h : lastE u = lastE c) : (s.set i u).flatMap lastE = s.flatMap lastE := by
  rw [lastEnc.set s i u (List.getElem?_eq_some_iff.1 hc).1, h, ← lastEnc.set s i c (List.getElem?_eq_some_iff.1 hc).1, set_get hc]
theorem set_now {s : List Cl} {i : Nat} {c u : Cl} (hc : s[i]? = some c) (h : nowE u = nowE c) : (s.set i u).flatMap nowE = s.flatMap nowE := by
  rw [nowEnc.set s i u (List.getElem?_eq_some_iff.1 hc).1, h, ← nowEnc.set s i c (List.getElem?_eq_some_iff.1 hc).1, set_get hc]
theorem qF_set {s : List Cl} {i : Nat} {c u : Cl} (hc : s[i]? = some c) (h : u.2.2 = c.2.2) : qF (s.set i u) = qF s := by
  funext j
  unfold qF
  rw [List.getElem?_set]
  by_cases hj : i = j
  · subst hj
    rw [if_pos rfl, if_pos (List.getElem?_eq_some_iff.1 hc).1, hc]
    exact h
  · rw [if_neg hj]
theorem countP_set {α : Type} (p : α → Bool) : ∀ (l : List α) (i : Nat) (c u : α), l[i]? = some c → (l.set i u).countP p + (if p c then 1 else 0) = l.countP p + (if p u then 1 else 0)
  | [], _, _, _, h => by simp at h
  | x :: l, 0, c, u, h => by
    simp at h
    subst h
    rw [List.set_cons_zero, List.countP_cons, List.countP_cons]
    omega
  | x :: l, i + 1, c, u, h => by
    have := countP_set p l i c u (by simpa using h)
    rw [List.set_cons_succ, List.countP_cons, List.countP_cons]
    omega
theorem nQ_set {s : List Cl} {i : Nat} {c u : Cl} (hc : s[i]? = some c) (h : u.2.2 = c.2.2) : nQ (s.set i u) = nQ s := by
  have := countP_set (fun c : Cl => c.2.2.isSome) s i c u hc
  simp only [h] at this
  unfold nQ
  omega
set_option maxRecDepth 100000
set_option maxHeartbeats 2000000
theorem put_any (m gn N j v : Nat) {c0 : Nat} {v2 v3 : Value} {w : World} {s : List Cl} {c : Cl} (h : RowL w m 82 [.slice (some ⟨gn, 0, none⟩) N c0, v2, v3]) (hn : RowL w gn 85 (s.flatMap nowE)) (hl : s.length = N) (hN : N ≤ 16384) (hc : s[j / 8]? = some c) :
    Calls Try.prog 34 #[.pointer (some ⟨m, 0, none⟩), .int .i64 (j : Int), .int .u64 (v : Int)] w fun e w' => e = .returned (.tuple #[]) ∧ RowL w' gn 85 ((s.set (j / 8) (wrC c (j % 8) v)).flatMap nowE) ∧ w.grownBy w' (some gn) ∧ w'.heap.size = w.heap.size := by
  have hj := (List.getElem?_eq_some_iff.1 hc).1
  refine X.fn Try.func34 rfl (n := 17) rfl rfl ?_
  refine CC.region ?_
  refine LL.val (R.move rfl rfl) rfl rfl rfl ?_
  refine LL.val (R.nil rfl rfl) rfl rfl rfl ?_
  refine LL.val (R.field rfl rfl (I.fld rfl)) rfl rfl rfl ?_
  refine LL.val (R.load rfl rfl (I.ld1 rfl (RowL.cell h rfl))) rfl rfl rfl ?_
  refine LL.val (R.move rfl rfl) rfl rfl rfl ?_
  refine LL.val (R.quoNc rfl rfl rfl rfl (by omega) (by omega)) rfl rfl rfl ?_
  refine LL.val (R.move rfl rfl) rfl rfl rfl ?_
  refine LL.val (R.remNc rfl rfl rfl rfl (by omega)) rfl rfl rfl ?_
  refine LL.val (R.move rfl rfl) rfl rfl rfl ?_
  refine LL.val (R.index rfl rfl rfl (I.ixS rfl (by omega))) rfl rfl rfl ?_
  refine LL.val (R.index rfl rfl rfl (I.ixA1 rfl (by omega))) rfl rfl rfl ?_
  (refine LL.store1 (j / 8) (j % 8) c (wrC c (j % 8) v) rfl rfl rfl rfl (by show 0 + j / 8 * 8 + j % 8 = j / 8 * 8 + j % 8; omega) nowEnc hn hc (by omega) (wrC_now c (j % 8) v) rfl rfl rfl rfl ?_; intro W1 rn g1 z1)
  refine LL.nil ?_
  refine EE.end _ rfl rfl ?_
  exact ⟨rfl, rn, g1, z1⟩
--C pmem_Memory_hasWord_1 | hw1_any _ _ _ @p @p @p | S
theorem hw1_any (bk m N : Nat) {a : Option Addr} {c : Nat} {v2 v3 : Value} {w : World} (hb : RowL w bk 45 [.pointer (some ⟨m, 0, none⟩)]) (h : RowL w m 82 [.slice a N c, v2, v3]) (hN : N ≤ 16384) : Calls Try.prog 63 #[.pointer (some ⟨bk, 0, none⟩)] w fun e w' => e = .returned (.int .i64 ((N * 8 : Nat) : Int)) ∧ w = w' := by
  refine X.fn Try.func63 rfl (n := 6) rfl rfl ?_
  refine CC.seq ?_
  refine CC.region ?_
  refine LL.val (R.assign rfl rfl) rfl rfl rfl ?_
  refine LL.nilS ?_
  refine CC.seq ?_
  refine CC.region ?_
  refine LL.val (R.load rfl rfl (I.ld1 rfl (RowL.cell hb rfl))) rfl rfl rfl ?_
  refine LL.val (R.nil rfl rfl) rfl rfl rfl ?_
  refine LL.val (R.field rfl rfl (I.fld rfl)) rfl rfl rfl ?_
  refine LL.call (R.call rfl rfl rfl) rfl rfl rfl (words_any _ _ (by first | assumption | omega) (by first | assumption | omega)) ?_
  rintro e W' ⟨rfl, rfl⟩
  refine ⟨_, rfl, ?_⟩
  refine LL.val (R.assign rfl rfl) rfl rfl rfl ?_
  refine LL.nilS ?_
  refine CC.ret ?_
  refine EE.ret _ rfl rfl ?_
  exact ⟨rfl, rfl⟩
--C pmem_Memory_hasLine_1 | hl1_any _ _ _ @p @p @p | S
theorem hl1_any (bk m N : Nat) {a : Option Addr} {c : Nat} {v2 v3 : Value} {w : World} (hb : RowL w bk 45 [.pointer (some ⟨m, 0, none⟩)]) (h : RowL w m 82 [.slice a N c, v2, v3]) (hN : N ≤ 16384) : Calls Try.prog 58 #[.pointer (some ⟨bk, 0, none⟩)] w fun e w' => e = .returned (.int .i64 (N : Int)) ∧ w = w' := by
  refine X.fn Try.func58 rfl (n := 8) rfl rfl ?_
  refine CC.seq ?_
  refine CC.region ?_
  refine LL.val (R.assign rfl rfl) rfl rfl rfl ?_
  refine LL.nilS ?_
  refine CC.seq ?_
  refine CC.region ?_
  refine LL.val (R.load rfl rfl (I.ld1 rfl (RowL.cell hb rfl))) rfl rfl rfl ?_
  refine LL.val (R.nil rfl rfl) rfl rfl rfl ?_
  refine LL.val (R.field rfl rfl (I.fld rfl)) rfl rfl rfl ?_
  refine LL.val (R.field rfl rfl (I.fld rfl)) rfl rfl rfl ?_
  refine LL.val (R.load rfl rfl (I.ld1 rfl (RowL.cell h rfl))) rfl rfl rfl ?_
  refine LL.val (R.len rfl rfl rfl rfl) rfl rfl rfl ?_
  refine LL.val (R.assign rfl rfl) rfl rfl rfl ?_
  refine LL.nilS ?_
  refine CC.ret ?_
  refine EE.ret _ rfl rfl ?_
  exact ⟨rfl, rfl⟩
theorem placeW_T (bk m N : Nat) (a : Int) {a0 : Option Addr} {c : Nat} {v2 v3 : Value} {w : World} (hb : RowL w bk 45 [.pointer (some ⟨m, 0, none⟩)]) (h : RowL w m 82 [.slice a0 N c, v2, v3]) (hN : N ≤ 16384) (h0 : 0 < N) (ha : 0 ≤ a ∧ a < ((N * 8 : Nat) : Int)) :
    Calls Try.prog 57 #[.pointer (some ⟨m, 0, none⟩), .int .i64 a, .func (.func 63) #[] #[.pointer (some ⟨bk, 0, none⟩)]] w fun e w' => e = .returned (.int .i64 0) ∧ w = w' := by
  refine X.fn Try.func57 rfl (n := 19) rfl rfl ?_
  refine CC.seq ?_
  refine CC.region ?_
  refine LL.val (R.assign rfl rfl) rfl rfl rfl ?_
  refine LL.nilS ?_
  refine CC.seq ?_
  refine CC.block ?_
  refine CC.seq ?_
  refine CC.region ?_
  refine LL.val (R.move rfl rfl) rfl rfl rfl ?_
  refine LL.call (R.call rfl rfl rfl) rfl rfl rfl (none_F _ _ (by first | assumption | omega) (by first | assumption | omega)) ?_
  rintro e W' ⟨rfl, rfl⟩
  refine ⟨_, rfl, ?_⟩
  refine LL.val (R.assign rfl rfl) rfl rfl rfl ?_
  refine LL.nilS ?_
  refine CC.no rfl ?_
  refine CC.seq ?_
  refine CC.region ?_
  refine LL.val (R.move rfl rfl) rfl rfl rfl ?_
  refine LL.val (R.ltF rfl rfl rfl (by omega)) rfl rfl rfl ?_
  refine LL.val (R.move rfl rfl) rfl rfl rfl ?_
  refine LL.val (R.move rfl rfl) rfl rfl rfl ?_
  refine LL.val (R.move rfl rfl) rfl rfl rfl ?_
  refine LL.call (R.callV rfl rfl rfl rfl) rfl rfl rfl (hw1_any _ _ _ (by first | assumption | omega) (by first | assumption | omega) (by first | assumption | omega)) ?_
  rintro e W' ⟨rfl, rfl⟩
  refine ⟨_, rfl, ?_⟩
  refine LL.val (R.geF rfl rfl rfl (by omega)) rfl rfl rfl ?_
  refine LL.val (R.pick rfl rfl rfl) rfl rfl rfl ?_
  refine LL.val (R.assign rfl rfl) rfl rfl rfl ?_
  refine LL.nilS ?_
  refine CC.no rfl ?_
  refine CC.skip ?_
  refine EE.inN ?_
  refine EE.thenN ?_
  refine CC.seq ?_
  refine CC.region ?_
  refine LL.val (R.assign rfl rfl) rfl rfl rfl ?_
  refine LL.nilS ?_
  refine CC.ret ?_
  refine EE.ret _ rfl rfl ?_
  exact ⟨rfl, rfl⟩
theorem placeW_F (bk m N : Nat) (a : Int) {a0 : Option Addr} {c : Nat} {v2 v3 : Value} {w : World} (hb : RowL w bk 45 [.pointer (some ⟨m, 0, none⟩)]) (h : RowL w m 82 [.slice a0 N c, v2, v3]) (hN : N ≤ 16384) (h0 : 0 < N) (ha : a < 0 ∨ ((N * 8 : Nat) : Int) ≤ a) :
    Calls Try.prog 57 #[.pointer (some ⟨m, 0, none⟩), .int .i64 a, .func (.func 63) #[] #[.pointer (some ⟨bk, 0, none⟩)]] w fun e w' => e = .returned (.int .i64 4) ∧ w = w' := by
  refine X.fn Try.func57 rfl (n := 19) rfl rfl ?_
  refine CC.seq ?_
  refine CC.region ?_
  refine LL.val (R.assign rfl rfl) rfl rfl rfl ?_
  refine LL.nilS ?_
  refine CC.seq ?_
  refine CC.block ?_
  refine CC.seq ?_
  refine CC.region ?_
  refine LL.val (R.move rfl rfl) rfl rfl rfl ?_
  refine LL.call (R.call rfl rfl rfl) rfl rfl rfl (none_F _ _ (by first | assumption | omega) (by first | assumption | omega)) ?_
  rintro e W' ⟨rfl, rfl⟩
  refine ⟨_, rfl, ?_⟩
  refine LL.val (R.assign rfl rfl) rfl rfl rfl ?_
  refine LL.nilS ?_
  refine CC.no rfl ?_
  refine CC.seq ?_
  refine CC.region ?_
  refine LL.val (R.move rfl rfl) rfl rfl rfl ?_
  refine LL.vsplit (fun h => R.ltT rfl rfl rfl h) (fun h => R.ltF rfl rfl rfl (Int.not_lt.1 h)) rfl rfl rfl (fun c1 => ?_) (fun c1 => ?_)
  refine LL.val (R.move rfl rfl) rfl rfl rfl ?_
  refine LL.skip rfl rfl ?_
  refine LL.skip rfl rfl ?_
  refine LL.skip rfl rfl ?_
  refine LL.skip rfl rfl ?_
  refine LL.val (R.pick rfl rfl rfl) rfl rfl rfl ?_
  refine LL.val (R.assign rfl rfl) rfl rfl rfl ?_
  refine LL.nilS ?_
  refine CC.yes rfl ?_
  refine CC.seq ?_
  refine CC.region ?_
  refine LL.val (R.assign rfl rfl) rfl rfl rfl ?_
  refine LL.nilS ?_
  refine CC.ret ?_
  refine EE.inR ?_
  refine EE.thenR ?_
  refine EE.ret _ rfl rfl ?_
  exact ⟨rfl, rfl⟩
  refine LL.val (R.move rfl rfl) rfl rfl rfl ?_
  refine LL.val (R.move rfl rfl) rfl rfl rfl ?_
  refine LL.val (R.move rfl rfl) rfl rfl rfl ?_
  refine LL.call (R.callV rfl rfl rfl rfl) rfl rfl rfl (hw1_any _ _ _ (by first | assumption | omega) (by first | assumption | omega) (by first | assumption | omega)) ?_
  rintro e W' ⟨rfl, rfl⟩
  refine ⟨_, rfl, ?_⟩
  refine LL.val (R.geT rfl rfl rfl (by omega)) rfl rfl rfl ?_
  refine LL.val (R.pick rfl rfl rfl) rfl rfl rfl ?_
  refine LL.val (R.assign rfl rfl) rfl rfl rfl ?_
  refine LL.nilS ?_
  refine CC.yes rfl ?_
  refine CC.seq ?_
  refine CC.region ?_
  refine LL.val (R.assign rfl rfl) rfl rfl rfl ?_
  refine LL.nilS ?_
  refine CC.ret ?_
  refine EE.inR ?_
  refine EE.thenR ?_
  refine EE.ret _ rfl rfl ?_
  exact ⟨rfl, rfl⟩
theorem placeL_T (bk m N : Nat) (a : Int) {a0 : Option Addr} {c : Nat} {v2 v3 : Value} {w : World} (hb : RowL w bk 45 [.pointer (some ⟨m, 0, none⟩)]) (h : RowL w m 82 [.slice a0 N c, v2, v3]) (hN : N ≤ 16384) (h0 : 0 < N) (ha : 0 ≤ a ∧ a < (N : Int)) :
    Calls Try.prog 57 #[.pointer (some ⟨m, 0, none⟩), .int .i64 a, .func (.func 58) #[] #[.pointer (some ⟨bk, 0, none⟩)]] w fun e w' => e = .returned (.int .i64 0) ∧ w = w' := by
  refine X.fn Try.func57 rfl (n := 19) rfl rfl ?_
  refine CC.seq ?_
  refine CC.region ?_
  refine LL.val (R.assign rfl rfl) rfl rfl rfl ?_
  refine LL.nilS ?_
  refine CC.seq ?_
  refine CC.block ?_
  refine CC.seq ?_
  refine CC.region ?_
  refine LL.val (R.move rfl rfl) rfl rfl rfl ?_
  refine LL.call (R.call rfl rfl rfl) rfl rfl rfl (none_F _ _ (by first | assumption | omega) (by first | assumption | omega)) ?_
  rintro e W' ⟨rfl, rfl⟩
  refine ⟨_, rfl, ?_⟩
  refine LL.val (R.assign rfl rfl) rfl rfl rfl ?_
  refine LL.nilS ?_
  refine CC.no rfl ?_
  refine CC.seq ?_
  refine CC.region ?_
  refine LL.val (R.move rfl rfl) rfl rfl rfl ?_
  refine LL.val (R.ltF rfl rfl rfl (by omega)) rfl rfl rfl ?_
  refine LL.val (R.move rfl rfl) rfl rfl rfl ?_
  refine LL.val (R.move rfl rfl) rfl rfl rfl ?_
  refine LL.val (R.move rfl rfl) rfl rfl rfl ?_
  refine LL.call (R.callV rfl rfl rfl rfl) rfl rfl rfl (hl1_any _ _ _ (by first | assumption | omega) (by first | assumption | omega) (by first | assumption | omega)) ?_
  rintro e W' ⟨rfl, rfl⟩
  refine ⟨_, rfl, ?_⟩
  refine LL.val (R.geF rfl rfl rfl (by omega)) rfl rfl rfl ?_
  refine LL.val (R.pick rfl rfl rfl) rfl rfl rfl ?_
  refine LL.val (R.assign rfl rfl) rfl rfl rfl ?_
  refine LL.nilS ?_
  refine CC.no rfl ?_
  refine CC.skip ?_
  refine EE.inN ?_
  refine EE.thenN ?_
  refine CC.seq ?_
  refine CC.region ?_
  refine LL.val (R.assign rfl rfl) rfl rfl rfl ?_
  refine LL.nilS ?_
  refine CC.ret ?_
  refine EE.ret _ rfl rfl ?_
  exact ⟨rfl, rfl⟩
theorem placeL_F (bk m N : Nat) (a : Int) {a0 : Option Addr} {c : Nat} {v2 v3 : Value} {w : World} (hb : RowL w bk 45 [.pointer (some ⟨m, 0, none⟩)]) (h : RowL w m 82 [.slice a0 N c, v2, v3]) (hN : N ≤ 16384) (h0 : 0 < N) (ha : a < 0 ∨ (N : Int) ≤ a) :
    Calls Try.prog 57 #[.pointer (some ⟨m, 0, none⟩), .int .i64 a, .func (.func 58) #[] #[.pointer (some ⟨bk, 0, none⟩)]] w fun e w' => e = .returned (.int .i64 4) ∧ w = w' := by
  refine X.fn Try.func57 rfl (n := 19) rfl rfl ?_
  refine CC.seq ?_
  refine CC.region ?_
  refine LL.val (R.assign rfl rfl) rfl rfl rfl ?_
  refine LL.nilS ?_
  refine CC.seq ?_
  refine CC.block ?_
  refine CC.seq ?_
  refine CC.region ?_
  refine LL.val (R.move rfl rfl) rfl rfl rfl ?_
  refine LL.call (R.call rfl rfl rfl) rfl rfl rfl (none_F _ _ (by first | assumption | omega) (by first | assumption | omega)) ?_
  rintro e W' ⟨rfl, rfl⟩
  refine ⟨_, rfl, ?_⟩
  refine LL.val (R.assign rfl rfl) rfl rfl rfl ?_
  refine LL.nilS ?_
  refine CC.no rfl ?_
  refine CC.seq ?_
  refine CC.region ?_
  refine LL.val (R.move rfl rfl) rfl rfl rfl ?_
  refine LL.vsplit (fun h => R.ltT rfl rfl rfl h) (fun h => R.ltF rfl rfl rfl (Int.not_lt.1 h)) rfl rfl rfl (fun c1 => ?_) (fun c1 => ?_)
  refine LL.val (R.move rfl rfl) rfl rfl rfl ?_
  refine LL.skip rfl rfl ?_
  refine LL.skip rfl rfl ?_
  refine LL.skip rfl rfl ?_
  refine LL.skip rfl rfl ?_
  refine LL.val (R.pick rfl rfl rfl) rfl rfl rfl ?_
  refine LL.val (R.assign rfl rfl) rfl rfl rfl ?_
  refine LL.nilS ?_
  refine CC.yes rfl ?_
  refine CC.seq ?_
  refine CC.region ?_
  refine LL.val (R.assign rfl rfl) rfl rfl rfl ?_
  refine LL.nilS ?_
  refine CC.ret ?_
  refine EE.inR ?_
  refine EE.thenR ?_
  refine EE.ret _ rfl rfl ?_
  exact ⟨rfl, rfl⟩
  refine LL.val (R.move rfl rfl) rfl rfl rfl ?_
  refine LL.val (R.move rfl rfl) rfl rfl rfl ?_
  refine LL.val (R.move rfl rfl) rfl rfl rfl ?_
  refine LL.call (R.callV rfl rfl rfl rfl) rfl rfl rfl (hl1_any _ _ _ (by first | assumption | omega) (by first | assumption | omega) (by first | assumption | omega)) ?_
  rintro e W' ⟨rfl, rfl⟩
  refine ⟨_, rfl, ?_⟩
  refine LL.val (R.geT rfl rfl rfl (by omega)) rfl rfl rfl ?_
  refine LL.val (R.pick rfl rfl rfl) rfl rfl rfl ?_
  refine LL.val (R.assign rfl rfl) rfl rfl rfl ?_
  refine LL.nilS ?_
  refine CC.yes rfl ?_
  refine CC.seq ?_
  refine CC.region ?_
  refine LL.val (R.assign rfl rfl) rfl rfl rfl ?_
  refine LL.nilS ?_
  refine CC.ret ?_
  refine EE.inR ?_
  refine EE.thenR ?_
  refine EE.ret _ rfl rfl ?_
  exact ⟨rfl, rfl⟩
def flC (c : Cl) : Cl := (c.1, c.2.1, some c.1)
def evC (c : Cl) : Cl := (c.1, c.1, none)
theorem qF_put {s : List Cl} {i : Nat} {c u : Cl} {o : Option Ln} (hc : s[i]? = some c) (h : u.2.2 = o) : putMap (qF s) i o = qF (s.set i u) := by
  funext j
  unfold putMap qF
  rw [List.getElem?_set]
  by_cases hj : j = i
  · subst hj
    rw [if_pos rfl, if_pos rfl, if_pos (List.getElem?_eq_some_iff.1 hc).1]
    exact h.symm
  · rw [if_neg hj, if_neg (Ne.symm hj)]
theorem qF_at {s : List Cl} {i : Nat} {c : Cl} (hc : s[i]? = some c) : qF s i = c.2.2 := by
  unfold qF
  rw [hc]
  rfl
theorem nQ_puts {s : List Cl} {i : Nat} {c u : Cl} (hc : s[i]? = some c) (h : u.2.2.isSome = true) : (if (qF s i).isSome then nQ s else nQ s + 1) = nQ (s.set i u) := by
  have := countP_set (fun c : Cl => c.2.2.isSome) s i c u hc
  rw [qF_at hc]
  unfold nQ
  simp only [h, if_true] at this
  split
  · rename_i h2; rw [if_pos h2] at this; omega
  · rename_i h2; rw [if_neg h2] at this; omega
theorem nQ_del {s : List Cl} {i : Nat} {c u : Cl} (hc : s[i]? = some c) (h : u.2.2 = none) : (if (qF s i).isSome then nQ s - 1 else nQ s) = nQ (s.set i u) := by
  have := countP_set (fun c : Cl => c.2.2.isSome) s i c u hc
  rw [qF_at hc]
  unfold nQ
  simp only [h, Option.isSome_none, Bool.false_eq_true, if_false] at this
  split
  · rename_i h2; rw [if_pos h2] at this; omega
  · rename_i h2; rw [if_neg h2] at this; omega
set_option maxRecDepth 100000
set_option maxHeartbeats 2000000
theorem hasWord_T (m N : Nat) (a : Int) {a0 : Option Addr} {c : Nat} {v2 v3 : Value} (w : World) (h : RowL w m 82 [.slice a0 N c, v2, v3]) (hN : N ≤ 16384) (h0 : 0 < N) (ha : 0 ≤ a ∧ a < ((N * 8 : Nat) : Int)) :
    Calls Try.prog 56 #[.pointer (some ⟨m, 0, none⟩), .int .i64 a] w fun e w' => e = .returned (.int .i64 0) ∧ Below w.heap.size w w' := by
  have q := Below.refl w.heap.size w
  refine X.fn Try.func56 rfl (n := 9) rfl rfl ?_
  refine CC.seq ?_
  refine CC.region ?_
  have l1 := h.lt
  refine LL.box [Value.pointer (some { block := m, off := 0 })] rfl rfl rfl rfl rfl ?_
  intro W3 g4 eg4 r5 z6 b2
  replace h := h.up b2
  replace q := q.trans (b2.mono q.size)
  refine LL.val (R.assign rfl rfl) rfl rfl rfl ?_
  refine LL.nilS ?_
  refine CC.seq ?_
  refine CC.region ?_
  refine LL.val (R.load rfl rfl (I.ld1 rfl (RowL.cell r5 rfl))) rfl rfl rfl ?_
  refine LL.val (R.move rfl rfl) rfl rfl rfl ?_
  refine LL.val (R.func rfl rfl rfl) rfl rfl rfl ?_
  refine LL.call (R.call rfl rfl rfl) rfl rfl rfl (placeW_T _ _ _ _ (by first | assumption | omega) (by first | assumption | omega) (by first | assumption | omega) (by first | assumption | omega) (by first | assumption | omega)) ?_
  rintro e W' ⟨rfl, rfl⟩
  refine ⟨_, rfl, ?_⟩
  refine LL.val (R.assign rfl rfl) rfl rfl rfl ?_
  refine LL.nilS ?_
  refine CC.ret ?_
  refine EE.ret _ rfl rfl ?_
  exact ⟨rfl, q⟩
--C pmem_Memory_hasWord | hasWord_F _ _ _ @w @p @p @p @p | ⟨rfl, @b⟩
theorem hasWord_F (m N : Nat) (a : Int) {a0 : Option Addr} {c : Nat} {v2 v3 : Value} (w : World) (h : RowL w m 82 [.slice a0 N c, v2, v3]) (hN : N ≤ 16384) (h0 : 0 < N) (ha : a < 0 ∨ ((N * 8 : Nat) : Int) ≤ a) :
    Calls Try.prog 56 #[.pointer (some ⟨m, 0, none⟩), .int .i64 a] w fun e w' => e = .returned (.int .i64 4) ∧ Below w.heap.size w w' := by
  have q := Below.refl w.heap.size w
  refine X.fn Try.func56 rfl (n := 9) rfl rfl ?_
  refine CC.seq ?_
  refine CC.region ?_
  have l1 := h.lt
  refine LL.box [Value.pointer (some { block := m, off := 0 })] rfl rfl rfl rfl rfl ?_
  intro W3 g4 eg4 r5 z6 b2
  replace h := h.up b2
  replace q := q.trans (b2.mono q.size)
  refine LL.val (R.assign rfl rfl) rfl rfl rfl ?_
  refine LL.nilS ?_
  refine CC.seq ?_
  refine CC.region ?_
  refine LL.val (R.load rfl rfl (I.ld1 rfl (RowL.cell r5 rfl))) rfl rfl rfl ?_
  refine LL.val (R.move rfl rfl) rfl rfl rfl ?_
  refine LL.val (R.func rfl rfl rfl) rfl rfl rfl ?_
  refine LL.call (R.call rfl rfl rfl) rfl rfl rfl (placeW_F _ _ _ _ (by first | assumption | omega) (by first | assumption | omega) (by first | assumption | omega) (by first | assumption | omega) (by first | assumption | omega)) ?_
  rintro e W' ⟨rfl, rfl⟩
  refine ⟨_, rfl, ?_⟩
  refine LL.val (R.assign rfl rfl) rfl rfl rfl ?_
  refine LL.nilS ?_
  refine CC.ret ?_
  refine EE.ret _ rfl rfl ?_
  exact ⟨rfl, q⟩
--C pmem_Memory_hasLine | hasLine_T _ _ _ @w @p @p @p @p | ⟨rfl, @b⟩
theorem hasLine_T (m N : Nat) (a : Int) {a0 : Option Addr} {c : Nat} {v2 v3 : Value} (w : World) (h : RowL w m 82 [.slice a0 N c, v2, v3]) (hN : N ≤ 16384) (h0 : 0 < N) (ha : 0 ≤ a ∧ a < (N : Int)) :
    Calls Try.prog 44 #[.pointer (some ⟨m, 0, none⟩), .int .i64 a] w fun e w' => e = .returned (.int .i64 0) ∧ Below w.heap.size w w' := by
  have q := Below.refl w.heap.size w
  refine X.fn Try.func44 rfl (n := 9) rfl rfl ?_
  refine CC.seq ?_
  refine CC.region ?_
  have l1 := h.lt
  refine LL.box [Value.pointer (some { block := m, off := 0 })] rfl rfl rfl rfl rfl ?_
  intro W3 g4 eg4 r5 z6 b2
  replace h := h.up b2
  replace q := q.trans (b2.mono q.size)
  refine LL.val (R.assign rfl rfl) rfl rfl rfl ?_
  refine LL.nilS ?_
  refine CC.seq ?_
  refine CC.region ?_
  refine LL.val (R.load rfl rfl (I.ld1 rfl (RowL.cell r5 rfl))) rfl rfl rfl ?_
  refine LL.val (R.move rfl rfl) rfl rfl rfl ?_
  refine LL.val (R.func rfl rfl rfl) rfl rfl rfl ?_
  refine LL.call (R.call rfl rfl rfl) rfl rfl rfl (placeL_T _ _ _ _ (by first | assumption | omega) (by first | assumption | omega) (by first | assumption | omega) (by first | assumption | omega) (by first | assumption | omega)) ?_
  rintro e W' ⟨rfl, rfl⟩
  refine ⟨_, rfl, ?_⟩
  refine LL.val (R.assign rfl rfl) rfl rfl rfl ?_
  refine LL.nilS ?_
  refine CC.ret ?_
  refine EE.ret _ rfl rfl ?_
  exact ⟨rfl, q⟩
--C pmem_Memory_hasLine | hasLine_F _ _ _ @w @p @p @p @p | ⟨rfl, @b⟩
theorem hasLine_F (m N : Nat) (a : Int) {a0 : Option Addr} {c : Nat} {v2 v3 : Value} (w : World) (h : RowL w m 82 [.slice a0 N c, v2, v3]) (hN : N ≤ 16384) (h0 : 0 < N) (ha : a < 0 ∨ (N : Int) ≤ a) :
    Calls Try.prog 44 #[.pointer (some ⟨m, 0, none⟩), .int .i64 a] w fun e w' => e = .returned (.int .i64 4) ∧ Below w.heap.size w w' := by
  have q := Below.refl w.heap.size w
  refine X.fn Try.func44 rfl (n := 9) rfl rfl ?_
  refine CC.seq ?_
  refine CC.region ?_
  have l1 := h.lt
  refine LL.box [Value.pointer (some { block := m, off := 0 })] rfl rfl rfl rfl rfl ?_
  intro W3 g4 eg4 r5 z6 b2
  replace h := h.up b2
  replace q := q.trans (b2.mono q.size)
  refine LL.val (R.assign rfl rfl) rfl rfl rfl ?_
  refine LL.nilS ?_
  refine CC.seq ?_
  refine CC.region ?_
  refine LL.val (R.load rfl rfl (I.ld1 rfl (RowL.cell r5 rfl))) rfl rfl rfl ?_
  refine LL.val (R.move rfl rfl) rfl rfl rfl ?_
  refine LL.val (R.func rfl rfl rfl) rfl rfl rfl ?_
  refine LL.call (R.call rfl rfl rfl) rfl rfl rfl (placeL_F _ _ _ _ (by first | assumption | omega) (by first | assumption | omega) (by first | assumption | omega) (by first | assumption | omega) (by first | assumption | omega)) ?_
  rintro e W' ⟨rfl, rfl⟩
  refine ⟨_, rfl, ?_⟩
  refine LL.val (R.assign rfl rfl) rfl rfl rfl ?_
  refine LL.nilS ?_
  refine CC.ret ?_
  refine EE.ret _ rfl rfl ?_
  exact ⟨rfl, q⟩
/-- What a call of a memory keeps of what there was. -/
abbrev KM (w : World) (gn gl qb : Nat) (i : Nat) : Prop := i < w.heap.size ∧ i ≠ gn ∧ i ≠ gl ∧ i ≠ qb
theorem km_bel {w w' : World} {gn gl qb : Nat} (b : Below w.heap.size w w') : Kept (KM w gn gl qb) w w' := bkept b fun _ h => h.1
theorem km_gr {w w1 w2 : World} {gn gl qb g : Nat} (h : Kept (KM w gn gl qb) w w1) (hg : w1.grownBy w2 (some g)) (he : g = gn ∨ g = gl ∨ g = qb) : Kept (KM w gn gl qb) w w2 :=
  h.trans (grown_kept hg (fun j hj => by have := hj.1; have := h.size; omega) fun j hj e => by cases e; obtain ⟨_, h1, h2, h3⟩ := hj; omega)
theorem store_T (w : World) (m gn gl qb N j v : Nat) {s : List Cl} {c : Cl} (M : Mem w m gn gl qb N s) (hc : s[j / 8]? = some c) :
    Calls Try.prog 41 #[.pointer (some ⟨m, 0, none⟩), .int .i64 (j : Int), .int .u64 (v : Int)] w fun e w' => e = .returned (.int .i64 0) ∧ Mem w' m gn gl qb N (s.set (j / 8) (wrC c (j % 8) v)) ∧ Kept (KM w gn gl qb) w w' := by
  have q := Below.refl w.heap.size w
  have hr := M.row
  have hn := M.now
  have hl := M.len
  have h0 := M.pos
  have hN := M.le
  have hj := (List.getElem?_eq_some_iff.1 hc).1
  obtain ⟨n1, n2, n3, n4, n5, n6⟩ := M.ne
  refine X.fn Try.func41 rfl (n := 20) rfl rfl ?_
  refine CC.seq ?_
  refine CC.region ?_
  refine LL.val (R.assign rfl rfl) rfl rfl rfl ?_
  refine LL.nilS ?_
  refine CC.seq ?_
  refine CC.seq ?_
  refine CC.region ?_
  refine LL.val (R.move rfl rfl) rfl rfl rfl ?_
  refine LL.val (R.move rfl rfl) rfl rfl rfl ?_
  refine LL.call (R.call rfl rfl rfl) rfl rfl rfl (hasWord_T _ _ _ _ (by first | assumption | omega) (by first | assumption | omega) (by first | assumption | omega) (by first | assumption | omega)) ?_
  rintro e W2 ⟨rfl, b1⟩
  refine ⟨_, rfl, ?_⟩
  have zb1 := b1.size
  replace M := M.up b1
  replace q := q.trans (b1.mono q.size)
  replace hr := hr.up b1
  replace hn := hn.up b1
  refine LL.val (R.assign rfl rfl) rfl rfl rfl ?_
  refine LL.nilS ?_
  refine CC.seq ?_
  refine CC.region ?_
  refine LL.val (R.move rfl rfl) rfl rfl rfl ?_
  refine LL.val (R.neF rfl rfl rfl (by omega)) rfl rfl rfl ?_
  refine LL.nilS ?_
  refine CC.no rfl ?_
  refine CC.skip ?_
  refine EE.thenN ?_
  refine CC.seq ?_
  refine CC.region ?_
  refine LL.val (R.move rfl rfl) rfl rfl rfl ?_
  refine LL.val (R.nil rfl rfl) rfl rfl rfl ?_
  refine LL.val (R.field rfl rfl (I.fld rfl)) rfl rfl rfl ?_
  refine LL.val (R.move rfl rfl) rfl rfl rfl ?_
  refine LL.val (R.move rfl rfl) rfl rfl rfl ?_
  (refine LL.call (R.call rfl rfl rfl) rfl rfl rfl (put_any m gn N j v hr hn hl hN hc) ?_; rintro e W5 ⟨rfl, rn, g5, z5⟩; refine ⟨_, rfl, ?_⟩)
  refine LL.nilS ?_
  refine CC.seq ?_
  refine CC.region ?_
  refine LL.val (R.assign rfl rfl) rfl rfl rfl ?_
  refine LL.nilS ?_
  refine CC.ret ?_
  refine EE.ret _ rfl rfl ?_
  exact ⟨rfl, ⟨hr.gr g5 n1, rn, by rw [set_last (u := wrC c (j % 8) v) hc rfl]; exact M.last.gr g5 (Ne.symm n4), by rw [qF_set (u := wrC c (j % 8) v) hc rfl, nQ_set (u := wrC c (j % 8) v) hc rfl]; exact M.qs.gr g5 (Ne.symm n5), by rw [List.length_set]; exact hl, h0, hN, M.ne⟩, km_gr (km_bel q) g5 (.inl rfl)⟩
theorem store_F (w : World) (m gn gl qb N : Nat) (a v : Int) {s : List Cl} (M : Mem w m gn gl qb N s) (ha : a < 0 ∨ ((N * 8 : Nat) : Int) ≤ a) :
    Calls Try.prog 41 #[.pointer (some ⟨m, 0, none⟩), .int .i64 a, .int .u64 v] w fun e w' => e = .returned (.int .i64 4) ∧ Below w.heap.size w w' := by
  have q := Below.refl w.heap.size w
  have hr := M.row
  have h0 := M.pos
  have hN := M.le
  refine X.fn Try.func41 rfl (n := 20) rfl rfl ?_
  refine CC.seq ?_
  refine CC.region ?_
  refine LL.val (R.assign rfl rfl) rfl rfl rfl ?_
  refine LL.nilS ?_
  refine CC.seq ?_
  refine CC.seq ?_
  refine CC.region ?_
  refine LL.val (R.move rfl rfl) rfl rfl rfl ?_
  refine LL.val (R.move rfl rfl) rfl rfl rfl ?_
  refine LL.call (R.call rfl rfl rfl) rfl rfl rfl (hasWord_F _ _ _ _ (by first | assumption | omega) (by first | assumption | omega) (by first | assumption | omega) (by first | assumption | omega)) ?_
  rintro e W2 ⟨rfl, b1⟩
  refine ⟨_, rfl, ?_⟩
  have zb1 := b1.size
  replace M := M.up b1
  replace q := q.trans (b1.mono q.size)
  replace hr := hr.up b1
  refine LL.val (R.assign rfl rfl) rfl rfl rfl ?_
  refine LL.nilS ?_
  refine CC.seq ?_
  refine CC.region ?_
  refine LL.val (R.move rfl rfl) rfl rfl rfl ?_
  refine LL.val (R.neT rfl rfl rfl (by omega)) rfl rfl rfl ?_
  refine LL.nilS ?_
  refine CC.yes rfl ?_
  refine CC.seq ?_
  refine CC.region ?_
  refine LL.val (R.move rfl rfl) rfl rfl rfl ?_
  refine LL.val (R.assign rfl rfl) rfl rfl rfl ?_
  refine LL.nilS ?_
  refine CC.ret ?_
  refine EE.thenR ?_
  refine EE.ret _ rfl rfl ?_
  exact ⟨rfl, q⟩
theorem flush_F (w : World) (m gn gl qb N : Nat) (a : Int) {s : List Cl} (M : Mem w m gn gl qb N s) (ha : a < 0 ∨ (N : Int) ≤ a) :
    Calls Try.prog 42 #[.pointer (some ⟨m, 0, none⟩), .int .i64 a] w fun e w' => e = .returned (.int .i64 4) ∧ Below w.heap.size w w' := by
  have q := Below.refl w.heap.size w
  have hr := M.row
  have h0 := M.pos
  have hN := M.le
  refine X.fn Try.func42 rfl (n := 25) rfl rfl ?_
  refine CC.seq ?_
  refine CC.region ?_
  refine LL.val (R.assign rfl rfl) rfl rfl rfl ?_
  refine LL.nilS ?_
  refine CC.seq ?_
  refine CC.seq ?_
  refine CC.region ?_
  refine LL.val (R.move rfl rfl) rfl rfl rfl ?_
  refine LL.val (R.move rfl rfl) rfl rfl rfl ?_
  refine LL.call (R.call rfl rfl rfl) rfl rfl rfl (hasLine_F _ _ _ _ (by first | assumption | omega) (by first | assumption | omega) (by first | assumption | omega) (by first | assumption | omega)) ?_
  rintro e W2 ⟨rfl, b1⟩
  refine ⟨_, rfl, ?_⟩
  have zb1 := b1.size
  replace M := M.up b1
  replace q := q.trans (b1.mono q.size)
  replace hr := hr.up b1
  refine LL.val (R.assign rfl rfl) rfl rfl rfl ?_
  refine LL.nilS ?_
  refine CC.seq ?_
  refine CC.region ?_
  refine LL.val (R.move rfl rfl) rfl rfl rfl ?_
  refine LL.val (R.neT rfl rfl rfl (by omega)) rfl rfl rfl ?_
  refine LL.nilS ?_
  refine CC.yes rfl ?_
  refine CC.seq ?_
  refine CC.region ?_
  refine LL.val (R.move rfl rfl) rfl rfl rfl ?_
  refine LL.val (R.assign rfl rfl) rfl rfl rfl ?_
  refine LL.nilS ?_
  refine CC.ret ?_
  refine EE.thenR ?_
  refine EE.ret _ rfl rfl ?_
  exact ⟨rfl, q⟩
theorem evict_F (w : World) (m gn gl qb N : Nat) (a : Int) {s : List Cl} (M : Mem w m gn gl qb N s) (ha : a < 0 ∨ (N : Int) ≤ a) :
    Calls Try.prog 21 #[.pointer (some ⟨m, 0, none⟩), .int .i64 a] w fun e w' => e = .returned (.int .i64 4) ∧ Below w.heap.size w w' := by
  have q := Below.refl w.heap.size w
  have hr := M.row
  have h0 := M.pos
  have hN := M.le
  refine X.fn Try.func21 rfl (n := 31) rfl rfl ?_
  refine CC.seq ?_
  refine CC.region ?_
  refine LL.val (R.assign rfl rfl) rfl rfl rfl ?_
  refine LL.nilS ?_
  refine CC.seq ?_
  refine CC.seq ?_
  refine CC.region ?_
  refine LL.val (R.move rfl rfl) rfl rfl rfl ?_
  refine LL.val (R.move rfl rfl) rfl rfl rfl ?_
  refine LL.call (R.call rfl rfl rfl) rfl rfl rfl (hasLine_F _ _ _ _ (by first | assumption | omega) (by first | assumption | omega) (by first | assumption | omega) (by first | assumption | omega)) ?_
  rintro e W2 ⟨rfl, b1⟩
  refine ⟨_, rfl, ?_⟩
  have zb1 := b1.size
  replace M := M.up b1
  replace q := q.trans (b1.mono q.size)
  replace hr := hr.up b1
  refine LL.val (R.assign rfl rfl) rfl rfl rfl ?_
  refine LL.nilS ?_
  refine CC.seq ?_
  refine CC.region ?_
  refine LL.val (R.move rfl rfl) rfl rfl rfl ?_
  refine LL.val (R.neT rfl rfl rfl (by omega)) rfl rfl rfl ?_
  refine LL.nilS ?_
  refine CC.yes rfl ?_
  refine CC.seq ?_
  refine CC.region ?_
  refine LL.val (R.move rfl rfl) rfl rfl rfl ?_
  refine LL.val (R.assign rfl rfl) rfl rfl rfl ?_
  refine LL.nilS ?_
  refine CC.ret ?_
  refine EE.thenR ?_
  refine EE.ret _ rfl rfl ?_
  exact ⟨rfl, q⟩
theorem flush_T (w : World) (m gn gl qb N i : Nat) {s : List Cl} {c : Cl} (M : Mem w m gn gl qb N s) (hc : s[i]? = some c) :
    Calls Try.prog 42 #[.pointer (some ⟨m, 0, none⟩), .int .i64 (i : Int)] w fun e w' => e = .returned (.int .i64 0) ∧ Mem w' m gn gl qb N (s.set i (flC c)) ∧ Kept (KM w gn gl qb) w w' := by
  have q := Below.refl w.heap.size w
  have hr := M.row
  have hq := M.qs
  have hl := M.len
  have h0 := M.pos
  have hN := M.le
  have hi := (List.getElem?_eq_some_iff.1 hc).1
  have cs : CellsN w ⟨gn, 0 + i * 8, none⟩ 8 (nowE c) := by rw [Nat.zero_add]; exact M.now.elemN nowEnc hc
  obtain ⟨n1, n2, n3, n4, n5, n6⟩ := M.ne
  refine X.fn Try.func42 rfl (n := 25) rfl rfl ?_
  refine CC.seq ?_
  refine CC.region ?_
  refine LL.val (R.assign rfl rfl) rfl rfl rfl ?_
  refine LL.nilS ?_
  refine CC.seq ?_
  refine CC.seq ?_
  refine CC.region ?_
  refine LL.val (R.move rfl rfl) rfl rfl rfl ?_
  refine LL.val (R.move rfl rfl) rfl rfl rfl ?_
  refine LL.call (R.call rfl rfl rfl) rfl rfl rfl (hasLine_T _ _ _ _ (by first | assumption | omega) (by first | assumption | omega) (by first | assumption | omega) (by first | assumption | omega)) ?_
  rintro e W2 ⟨rfl, b1⟩
  refine ⟨_, rfl, ?_⟩
  have zb1 := b1.size
  replace M := M.up b1
  replace q := q.trans (b1.mono q.size)
  replace hr := hr.up b1
  replace hq := hq.up b1
  replace cs := cs.up b1
  refine LL.val (R.assign rfl rfl) rfl rfl rfl ?_
  refine LL.nilS ?_
  refine CC.seq ?_
  refine CC.region ?_
  refine LL.val (R.move rfl rfl) rfl rfl rfl ?_
  refine LL.val (R.neF rfl rfl rfl (by omega)) rfl rfl rfl ?_
  refine LL.nilS ?_
  refine CC.no rfl ?_
  refine CC.skip ?_
  refine EE.thenN ?_
  refine CC.seq ?_
  refine CC.tailB 13 (by kernel_rfl) (by kernel_rfl) (fun W5 b4 z6 => ?_)
  replace b1 := b1.trans (b4.mono b1.size)
  replace M := M.up b4
  replace q := q.trans (b4.mono q.size)
  replace hr := hr.up b4
  replace hq := hq.up b4
  replace cs := cs.up b4
  refine SS.val (R.move rfl rfl) rfl rfl ?_
  refine SS.val (R.nil rfl rfl) rfl rfl ?_
  refine SS.val (R.field rfl rfl (I.fld rfl)) rfl rfl ?_
  refine SS.val (R.load rfl rfl (I.ld1 rfl (RowL.cell hr rfl))) rfl rfl ?_
  refine SS.val (R.move rfl rfl) rfl rfl ?_
  refine SS.val (R.move rfl rfl) rfl rfl ?_
  refine SS.val (R.nil rfl rfl) rfl rfl ?_
  refine SS.val (R.field rfl rfl (I.fld rfl)) rfl rfl ?_
  refine SS.val (R.field rfl rfl (I.fld rfl)) rfl rfl ?_
  refine SS.val (R.load rfl rfl (I.ld1 rfl (RowL.cell hr rfl))) rfl rfl ?_
  refine SS.val (R.move rfl rfl) rfl rfl ?_
  refine SS.val (R.index rfl rfl rfl (I.ixS rfl (by omega))) rfl rfl ?_
  refine SS.val (R.load rfl rfl (I.ldM (by assumption) rfl rfl)) rfl rfl ?_
  refine SS.nil ?_
  (refine LL.mput (.inl rfl) rfl iKeys rfl hq i c.1 rfl rfl rfl rfl rfl ?_; intro W5 mq g5 z5)
  refine LL.nilS ?_
  refine CC.seq ?_
  refine CC.region ?_
  refine LL.val (R.assign rfl rfl) rfl rfl rfl ?_
  refine LL.nilS ?_
  refine CC.ret ?_
  refine EE.ret _ rfl rfl ?_
  exact ⟨rfl, ⟨hr.gr g5 n3, by rw [set_now (u := flC c) hc rfl]; exact M.now.gr g5 n5, by rw [set_last (u := flC c) hc rfl]; exact M.last.gr g5 n6, by rw [← nQ_puts (u := flC c) hc rfl, ← qF_put (u := flC c) hc rfl]; exact mq, by rw [List.length_set]; exact hl, h0, hN, M.ne⟩, km_gr (km_bel q) g5 (.inr (.inr rfl))⟩
theorem evict_T (w : World) (m gn gl qb N i : Nat) {s : List Cl} {c : Cl} (M : Mem w m gn gl qb N s) (hc : s[i]? = some c) :
    Calls Try.prog 21 #[.pointer (some ⟨m, 0, none⟩), .int .i64 (i : Int)] w fun e w' => e = .returned (.int .i64 0) ∧ Mem w' m gn gl qb N (s.set i (evC c)) ∧ Kept (KM w gn gl qb) w w' := by
  have q := Below.refl w.heap.size w
  have hr := M.row
  have hq := M.qs
  have ha := M.last
  have hl := M.len
  have h0 := M.pos
  have hN := M.le
  have hi := (List.getElem?_eq_some_iff.1 hc).1
  have cs : CellsN w ⟨gn, 0 + i * 8, none⟩ 8 (nowE c) := by rw [Nat.zero_add]; exact M.now.elemN nowEnc hc
  obtain ⟨n1, n2, n3, n4, n5, n6⟩ := M.ne
  refine X.fn Try.func21 rfl (n := 31) rfl rfl ?_
  refine CC.seq ?_
  refine CC.region ?_
  refine LL.val (R.assign rfl rfl) rfl rfl rfl ?_
  refine LL.nilS ?_
  refine CC.seq ?_
  refine CC.seq ?_
  refine CC.region ?_
  refine LL.val (R.move rfl rfl) rfl rfl rfl ?_
  refine LL.val (R.move rfl rfl) rfl rfl rfl ?_
  refine LL.call (R.call rfl rfl rfl) rfl rfl rfl (hasLine_T _ _ _ _ (by first | assumption | omega) (by first | assumption | omega) (by first | assumption | omega) (by first | assumption | omega)) ?_
  rintro e W2 ⟨rfl, b1⟩
  refine ⟨_, rfl, ?_⟩
  have zb1 := b1.size
  replace M := M.up b1
  replace q := q.trans (b1.mono q.size)
  replace hr := hr.up b1
  replace hq := hq.up b1
  replace ha := ha.up b1
  replace cs := cs.up b1
  refine LL.val (R.assign rfl rfl) rfl rfl rfl ?_
  refine LL.nilS ?_
  refine CC.seq ?_
  refine CC.region ?_
  refine LL.val (R.move rfl rfl) rfl rfl rfl ?_
  refine LL.val (R.neF rfl rfl rfl (by omega)) rfl rfl rfl ?_
  refine LL.nilS ?_
  refine CC.no rfl ?_
  refine CC.skip ?_
  refine EE.thenN ?_
  refine CC.seq ?_
  refine CC.tailB 14 (by kernel_rfl) (by kernel_rfl) (fun W5 b4 z6 => ?_)
  replace b1 := b1.trans (b4.mono b1.size)
  replace M := M.up b4
  replace q := q.trans (b4.mono q.size)
  replace hr := hr.up b4
  replace hq := hq.up b4
  replace ha := ha.up b4
  replace cs := cs.up b4
  refine SS.val (R.move rfl rfl) rfl rfl ?_
  refine SS.val (R.nil rfl rfl) rfl rfl ?_
  refine SS.val (R.field rfl rfl (I.fld rfl)) rfl rfl ?_
  refine SS.val (R.load rfl rfl (I.ld1 rfl (RowL.cell hr rfl))) rfl rfl ?_
  refine SS.val (R.move rfl rfl) rfl rfl ?_
  refine SS.val (R.move rfl rfl) rfl rfl ?_
  refine SS.val (R.nil rfl rfl) rfl rfl ?_
  refine SS.val (R.field rfl rfl (I.fld rfl)) rfl rfl ?_
  refine SS.val (R.field rfl rfl (I.fld rfl)) rfl rfl ?_
  refine SS.val (R.load rfl rfl (I.ld1 rfl (RowL.cell hr rfl))) rfl rfl ?_
  refine SS.val (R.move rfl rfl) rfl rfl ?_
  refine SS.val (R.index rfl rfl rfl (I.ixS rfl (by omega))) rfl rfl ?_
  refine SS.val (R.load rfl rfl (I.ldM (by assumption) rfl rfl)) rfl rfl ?_
  refine SS.val (R.index rfl rfl rfl (I.ixS rfl (by omega))) rfl rfl ?_
  refine SS.nil ?_
  (refine LL.storeR i (evC c) rfl rfl (by show 0 + i * 8 = i * 8; omega) rfl rfl lastEnc ha hi rfl rfl ?_; intro W5 ra g5 z5; replace hr := hr.gr g5 n2; replace hq := hq.gr g5 (Ne.symm n6))
  refine LL.nilS ?_
  refine CC.seq ?_
  refine CC.region ?_
  refine LL.val (R.move rfl rfl) rfl rfl rfl ?_
  refine LL.val (R.nil rfl rfl) rfl rfl rfl ?_
  refine LL.val (R.field rfl rfl (I.fld rfl)) rfl rfl rfl ?_
  refine LL.val (R.load rfl rfl (I.ld1 rfl (RowL.cell hr rfl))) rfl rfl rfl ?_
  refine LL.val (R.move rfl rfl) rfl rfl rfl ?_
  (refine LL.mdel rfl iKeys i rfl rfl hq rfl rfl ?_; intro W6 mq g6 z6)
  refine LL.nilS ?_
  refine CC.seq ?_
  refine CC.region ?_
  refine LL.val (R.assign rfl rfl) rfl rfl rfl ?_
  refine LL.nilS ?_
  refine CC.ret ?_
  refine EE.ret _ rfl rfl ?_
  exact ⟨rfl, ⟨hr.gr g6 n3, by rw [set_now (u := evC c) hc rfl]; exact (M.now.gr g5 n4).gr g6 n5, ra.gr g6 n6, by rw [← nQ_del (u := evC c) hc rfl, ← qF_put (u := evC c) hc rfl]; exact mq, by rw [List.length_set]; exact hl, h0, hN, M.ne⟩, km_gr (km_gr (km_bel q) g5 (.inr (.inl rfl))) g6 (.inr (.inr rfl))⟩
theorem info_parts_t {P : Program} {T e : TypeId} {z : Value} {k bytes : Nat} (hu : P.underlying T = some (.slice e)) (h : (P.info? e).map (fun i => (i.zero, i.size, i.bytes)) = some (some z, k, bytes)) (hz : z.cells.size = k) : ElT P T e z k bytes := by
  refine ⟨hu, ?_, hz⟩
  cases hi : P.info? e with
  | none => rw [hi] at h; cases h
  | some i =>
    rw [hi] at h
    simp only [Option.map_some, Option.some.injEq, Prod.mk.injEq] at h
    exact ⟨i, rfl, h.1, h.2.1, h.2.2⟩

def zC : Cl := (zL, zL, none)
theorem Try.infoLn : (Try.prog.info? 85).map (fun i => (i.zero, i.size, i.bytes)) = some (some (lV zL), 8, 64) := by kernel_rfl
theorem ElLn : ElT Try.prog 77 85 (lV zL) 8 64 := info_parts_t Try.underlying77 Try.infoLn rfl
theorem Try.infoU : (Try.prog.info? 36).map (fun i => (i.zero, i.size, i.bytes)) = some (some (.int .u64 0), 1, 8) := by kernel_rfl
theorem ElU : ElT Try.prog 43 36 (.int .u64 0) 1 8 := info_parts_t Try.underlying43 Try.infoU rfl
theorem ElU1 : El Try.prog 43 36 (.int .u64 0) 8 := ⟨Try.underlying43, info_parts Try.infoU, rfl⟩
set_option maxRecDepth 100000
set_option maxHeartbeats 2000000
theorem moved_any {α : Type} {enc : α → List Value} (E : Enc enc 8) (g N : Nat) (s : List α) (w : World) (h : RowL w g 85 (s.flatMap enc)) (hl : s.length = N) (hN : N ≤ 16384) :
    Calls Try.prog 35 #[.slice (some ⟨g, 0, none⟩) N N] w fun e w' => ∃ g', e = .returned (.slice (some ⟨g', 0, none⟩) N N) ∧ RowL w' g' 85 (s.flatMap enc) ∧ w.heap.size ≤ g' ∧ g' < w'.heap.size ∧ Below w.heap.size w w' := by
  have q := Below.refl w.heap.size w
  have hfl := E.flat s
  have cs : CellsN w ⟨g, 0, none⟩ (N * 8) (s.flatMap enc) := h.cellsN (by rw [List.drop_zero, List.take_of_length_le (by omega)]) (by omega)
  have hg := h.lt
  refine X.fn Try.func35 rfl (n := 11) rfl rfl ?_
  refine CC.seq ?_
  refine CC.region ?_
  refine LL.val (R.assign rfl rfl) rfl rfl rfl ?_
  refine LL.nilS ?_
  refine CC.seq ?_
  refine CC.region ?_
  refine LL.val (R.move rfl rfl) rfl rfl rfl ?_
  refine LL.val (R.len rfl rfl rfl rfl) rfl rfl rfl ?_
  have l50 := h.lt
  (refine LL.makeE ElLn rfl (by decide) rfl rfl rfl (Nat.le_refl _) (by omega) (by omega) rfl rfl ?_; intro W49 g1 eg1 r1 zg1 b46)
  have zb46 := b46.size
  replace h := h.up b46
  replace q := q.trans (b46.mono q.size)
  replace cs := cs.up b46
  refine LL.val (R.assign rfl rfl) rfl rfl rfl ?_
  refine LL.nilS ?_
  refine CC.seq ?_
  refine CC.region ?_
  refine LL.val (R.move rfl rfl) rfl rfl rfl ?_
  refine LL.val (R.move rfl rfl) rfl rfl rfl ?_
  (refine LL.copyE rfl rfl ElLn r1 cs (by simp [zL]) (E.ones s) rfl rfl ?_; intro W114 r2 gr112 zr2; clear r1)
  have zgr112 := gr112.size
  replace b46 := b46.grown gr112 b46.size (by rintro k ⟨⟩; omega)
  replace h := h.gr gr112 (by have := h.lt; omega)
  replace q := q.grown gr112 q.size (by rintro k ⟨⟩; omega)
  replace cs := cs.gr gr112 (by have := cs.lt; omega)
  refine LL.nilS ?_
  refine CC.seq ?_
  refine CC.region ?_
  refine LL.val (R.move rfl rfl) rfl rfl rfl ?_
  refine LL.val (R.assign rfl rfl) rfl rfl rfl ?_
  refine LL.nilS ?_
  refine CC.ret ?_
  refine EE.ret _ rfl rfl ?_
  exact ⟨g1, rfl, r2, by omega, r2.lt, q⟩
def uE (x : Nat) : List Value := [.int .u64 (x : Int)]
theorem uEnc : Enc uE 1 := ⟨fun _ => rfl, fun t u hu => by
  simp only [uE, List.mem_cons, List.not_mem_nil, or_false] at hu
  subst hu
  rfl, by decide⟩
theorem flat_u (ws : List Nat) : ws.flatMap uE = ints .u64 ws := by
  induction ws with
  | nil => rfl
  | cons x ws ih => rw [List.flatMap_cons, ih]; rfl
/-- The words of lines. -/
def wdS (pr : Cl → Ln) (s : List Cl) : List Nat := s.flatMap fun c => (pr c).1
theorem wdS_len (pr : Cl → Ln) (s : List Cl) : (wdS pr s).length = s.length * 8 := by
  induction s with
  | nil => rfl
  | cons c s ih => unfold wdS at *; rw [List.flatMap_cons, List.length_append, ih, (pr c).2, List.length_cons]; omega
theorem wdS_succ (pr : Cl → Ln) {s : List Cl} {i : Nat} {c : Cl} (hc : s[i]? = some c) : wdS pr (s.take (i + 1)) = wdS pr (s.take i) ++ (pr c).1 := by
  unfold wdS
  rw [List.take_add_one, hc, List.flatMap_append]
  simp
theorem wdS_row (pr : Cl → Ln) (s : List Cl) : (s.flatMap fun c => lE (pr c)) = ints .u64 (wdS pr s) := by
  unfold wdS lE ints
  rw [List.map_flatMap]
theorem prEnc (pr : Cl → Ln) : Enc (fun c => lE (pr c)) 8 := ⟨fun _ => lE_len _, fun _ => lE_one _, by decide⟩
theorem ln_reads {x : Ln} {w : World} {g e : Nat} (h : RowL w g e (lE x)) : ReadsT uE 1 w (.slice (some ⟨g, 0, none⟩) 8 8) x.1 := by
  have := RowL.readsT uEnc (ts := x.1) (by rw [flat_u]; exact h) 8 (by rw [x.2]; omega)
  rw [x.2] at this
  exact this
theorem ln_cells {x : Ln} {w : World} {g e : Nat} (h : RowL w g e (lE x)) : CellsN w ⟨g, 0, none⟩ 8 (lE x) := h.cellsN (by rw [List.drop_zero, List.take_of_length_le (by rw [lE_len]; omega)]) (by rw [lE_len]; omega)
theorem flat_any (pr : Cl → Ln) (g N : Nat) (s : List Cl) (w : World) (h : RowL w g 85 (s.flatMap fun c => lE (pr c))) (hl : s.length = N) (hN : N ≤ 16384) :
    Calls Try.prog 48 #[.slice (some ⟨g, 0, none⟩) N N] w fun e w' => ∃ v, e = .returned v ∧ ReadsT uE 1 w' v (wdS pr s) ∧ Below w.heap.size w w' := by
  have q := Below.refl w.heap.size w
  have hh : ∀ W, Below w.heap.size w W → RowL W g 85 (s.flatMap fun c => lE (pr c)) := fun W b => h.below b h.lt
  clear h
  refine X.fn Try.func48 rfl (n := 21) rfl rfl ?_
  refine CC.seq ?_
  refine CC.region ?_
  refine LL.val (R.assign rfl rfl) rfl rfl rfl ?_
  refine LL.nilS ?_
  refine CC.seq ?_
  refine CC.region ?_
  refine LL.val (R.move rfl rfl) rfl rfl rfl ?_
  refine LL.val (R.len rfl rfl rfl rfl) rfl rfl rfl ?_
  refine LL.val (R.mulNc rfl rfl rfl rfl (by omega)) rfl rfl rfl ?_
  (refine LL.make (l := 0) (m := N * 8) ElU1 rfl rfl rfl (by omega) (by omega) (by omega) rfl rfl ?_; intro W32 g1 eg1 r1 zg1 b29)
  have zb29 := b29.size
  replace q := q.trans (b29.mono q.size)
  refine LL.val (R.assign rfl rfl) rfl rfl rfl ?_
  refine LL.nilS ?_
  refine CC.seq ?_
  refine CC.seq ?_
  refine CC.region ?_
  refine LL.val (R.move rfl rfl) rfl rfl rfl ?_
  refine LL.val (R.len rfl rfl rfl rfl) rfl rfl rfl ?_
  refine LL.val (R.move rfl rfl) rfl rfl rfl ?_
  refine LL.nilS ?_
  refine CC.block ?_
  have o := r1.own0 (enc := uE) (k := 1) (base := w.heap.size) (cap := N * 8) (by simp) (by omega) (by simp only [maxLen]; omega)
  have yq := q.size
  refine CC.loop (α := Nat) (fun i => [(3, .slice (some ⟨g1, 0, none⟩) (i * 8) (N * 8)), (10, .slice (some ⟨g, 0, none⟩) N N), (11, .int .i64 (N : Int)), (12, .int .i64 (i : Int))]) (fun i W => i ≤ N ∧ Below w.heap.size w W ∧ g1 < W.heap.size ∧ OwnsT uE 1 W w.heap.size 36 (.slice (some ⟨g1, 0, none⟩) (i * 8) (N * 8)) (wdS pr (s.take i))) (fun i => N - i) 0 ⟨by first | rfl | (rw [Nat.zero_mul]; rfl), rfl, rfl, rfl, trivial⟩ ⟨by show 0 ≤ N; omega, q, by omega, by rw [Nat.zero_mul]; exact o⟩ ?_
  clear r1 o q
  rintro i W ⟨hi, q, hg1, o⟩
  show CC none Try.prog _ 21 [] (sl [(3, .slice (some ⟨g1, 0, none⟩) (i * 8) (N * 8)), (10, .slice (some ⟨g, 0, none⟩) N N), (11, .int .i64 (N : Int)), (12, .int .i64 (i : Int))]) _ W
  by_cases hlt : i < N
  case neg =>
    obtain rfl : i = N := by omega
    rw [List.take_of_length_le (by omega)] at o
    refine CC.seq ?_
    refine CC.region ?_
    refine LL.val (R.ltF rfl rfl rfl (by omega)) rfl rfl rfl ?_
    refine LL.nilS ?_
    refine CC.seq ?_
    refine CC.no rfl ?_
    refine CC.exit ?_
    refine EE.thenX ?_
    refine EE.thenX ?_
    refine EE.inX ?_
    refine EE.thenN ?_
    refine CC.seq ?_
    refine CC.region ?_
    refine LL.val (R.move rfl rfl) rfl rfl rfl ?_
    refine LL.val (R.assign rfl rfl) rfl rfl rfl ?_
    refine LL.nilS ?_
    refine CC.ret ?_
    refine EE.ret _ rfl rfl ?_
    exact ⟨_, rfl, o.reads uEnc, q⟩
  obtain ⟨c, hc⟩ : ∃ c, s[i]? = some c := ⟨_, List.getElem?_eq_getElem (by omega)⟩
  have cs : CellsN W ⟨g, 0 + i * 8, none⟩ 8 (lE (pr c)) := by rw [Nat.zero_add]; exact RowL.elemN (enc := fun c => lE (pr c)) (x := c) (prEnc pr) (hh W q) hc
  have hp := (pr c).2
  have hs := wdS_succ pr hc
  refine CC.seq ?_
  refine CC.region ?_
  refine LL.val (R.ltT rfl rfl rfl (by omega)) rfl rfl rfl ?_
  refine LL.nilS ?_
  refine CC.seq ?_
  refine CC.yes rfl ?_
  refine CC.skip ?_
  refine EE.thenN ?_
  refine CC.seq ?_
  refine CC.block ?_
  refine CC.seq ?_
  refine CC.region ?_
  refine LL.val (R.index rfl rfl rfl (I.ixS rfl (by omega))) rfl rfl rfl ?_
  refine LL.val (R.load rfl rfl (I.ldM (by assumption) rfl rfl)) rfl rfl rfl ?_
  refine LL.alloc ([Value.int IntKind.u64 0, Value.int IntKind.u64 0, Value.int IntKind.u64 0, Value.int IntKind.u64 0, Value.int IntKind.u64 0, Value.int IntKind.u64 0, Value.int IntKind.u64 0, Value.int IntKind.u64 0]) rfl rfl rfl rfl rfl ?_
  intro Wb58 gb59 egb59 rb60 zb61 bb57
  replace q := q.trans (bb57.mono q.size)
  replace o := o.up bb57
  replace cs := cs.up bb57
  (refine LL.storeAll rfl rfl rfl rfl (lE_len _) (by assumption) rfl (lE_one _) rfl rfl ?_; intro Wb65 r5 grb63 z5)
  have zgrb63 := grb63.size
  replace bb57 := bb57.grown grb63 bb57.size (by rintro k ⟨⟩; omega)
  replace q := q.grown grb63 q.size (by rintro k ⟨⟩; omega)
  replace o := o.grown grb63 (fun e => by simp [Value.ownBlock] at e; omega)
  refine LL.nilS ?_
  refine CC.region ?_
  refine LL.val (R.move rfl rfl) rfl rfl rfl ?_
  refine LL.val (R.slice rfl rfl rfl rfl rfl (I.slA rfl)) rfl rfl rfl ?_
  (refine LL.appendF rfl rfl uEnc ElU o (ln_reads r5) 8 hp (by omega) (by omega) rfl rfl ?_; intro Wb107 o2 grb105)
  have zgrb105 := grb105.size
  replace r5 := r5.gr grb105 (by have := r5.lt; omega)
  replace q := q.grown grb105 q.size (by rintro k ⟨⟩; omega)
  refine LL.val (R.assign rfl rfl) rfl rfl rfl ?_
  refine LL.nil ?_
  refine EE.inN ?_
  refine EE.thenN ?_
  refine CC.region ?_
  refine LL.val (R.addNc rfl rfl rfl rfl (by omega)) rfl rfl rfl ?_
  refine LL.val (R.move rfl rfl) rfl rfl rfl ?_
  refine LL.nil ?_
  exact EE.round (i + 1) ⟨by show some (Value.slice _ (i * 8 + 8) _) = some (Value.slice _ ((i + 1) * 8) _); rw [Nat.add_mul], rfl, rfl, rfl, trivial⟩ ⟨by show i + 1 ≤ N; omega, q, by omega, by rw [hs, Nat.add_mul, Nat.one_mul]; exact o2⟩ (by show N - (i + 1) < N - i; omega)
/-- A line that stands, and lasts. -/
def nwC (x : Ln) : Cl := (x, x, none)
theorem nw_now (ls : List Ln) : (ls.map nwC).flatMap nowE = ls.flatMap lE := by
  rw [List.flatMap_map]; rfl
theorem nw_last (ls : List Ln) : (ls.map nwC).flatMap lastE = ls.flatMap lE := by
  rw [List.flatMap_map]; rfl
theorem nw_q (ls : List Ln) : qF (ls.map nwC) = fun _ => none := by
  funext i
  unfold qF
  rw [List.getElem?_map]
  cases ls[i]? <;> rfl
theorem nw_n (ls : List Ln) : nQ (ls.map nwC) = 0 := by
  unfold nQ
  rw [List.countP_map]
  induction ls with
  | nil => rfl
  | cons x ls ih => rw [List.countP_cons, ih]; rfl
set_option maxRecDepth 100000
set_option maxHeartbeats 2000000
theorem on_any (g N : Nat) (ls : List Ln) (w : World) (h : RowL w g 85 (ls.flatMap lE)) (hl : ls.length = N) (hN : N ≤ 16384) (h0 : 0 < N) :
    Calls Try.prog 47 #[.slice (some ⟨g, 0, none⟩) N N] w fun e w' => ∃ m gl qb, e = .returned (.pointer (some ⟨m, 0, none⟩)) ∧ Mem w' m g gl qb N (ls.map nwC) ∧ w.heap.size ≤ m ∧ w.heap.size ≤ gl ∧ w.heap.size ≤ qb ∧ Below w.heap.size w w' := by
  have q := Below.refl w.heap.size w
  have hg := h.lt
  refine X.fn Try.func47 rfl (n := 10) rfl rfl ?_
  refine CC.seq ?_
  refine CC.region ?_
  refine LL.val (R.assign rfl rfl) rfl rfl rfl ?_
  refine LL.nilS ?_
  refine CC.seq ?_
  refine CC.region ?_
  refine LL.val (R.move rfl rfl) rfl rfl rfl ?_
  refine LL.val (R.buildV rfl rfl (v := .agg #[Value.slice (some { block := g, off := 0 }) N N]) (fun _ => by kernel_rfl)) rfl rfl rfl ?_
  refine LL.val (R.move rfl rfl) rfl rfl rfl ?_
  refine LL.call (R.call rfl rfl rfl) rfl rfl rfl (moved_any lEnc _ _ _ _ (by first | assumption | omega) (by first | assumption | omega) (by first | assumption | omega)) ?_
  rintro e W42 ⟨g43, rfl, r44, l45, o46, b41⟩
  refine ⟨_, rfl, ?_⟩
  have zb41 := b41.size
  replace h := h.up b41
  replace q := q.trans (b41.mono q.size)
  have l52 := r44.lt
  have l53 := h.lt
  (refine LL.makeMap (R.makeMap0 rfl) rfl rfl rfl ?_; intro W51 qb eqb mk zqb b48; replace mk := mk Nat Ln (.int .i64) iK lV)
  have zb48 := b48.size
  replace r44 := r44.up b48
  replace b41 := b41.trans (b48.mono b41.size)
  replace h := h.up b48
  replace q := q.trans (b48.mono q.size)
  refine LL.val (R.buildV rfl rfl (v := .agg #[Value.slice (some { block := g, off := 0 }) N N, Value.slice (some { block := g43, off := 0 }) N N, Value.map (some qb)]) (fun _ => by kernel_rfl)) rfl rfl rfl ?_
  have l75 := r44.lt
  have l76 := h.lt
  refine LL.box [Value.slice (some { block := g, off := 0 }) N N, Value.slice (some { block := g43, off := 0 }) N N, Value.map (some qb)] rfl rfl rfl rfl rfl ?_
  intro W78 g79 eg79 r80 z81 b77
  replace b48 := b48.trans (b77.mono b48.size)
  replace mk := mk.up b77
  replace r44 := r44.up b77
  replace b41 := b41.trans (b77.mono b41.size)
  replace h := h.up b77
  replace q := q.trans (b77.mono q.size)
  refine LL.val (R.assign rfl rfl) rfl rfl rfl ?_
  refine LL.nilS ?_
  refine CC.ret ?_
  refine EE.ret _ rfl rfl ?_
  exact ⟨_, _, _, rfl, ⟨by assumption, by rw [nw_now]; exact h, by rw [nw_last]; assumption, by rw [nw_q, nw_n]; exact mk, by rw [List.length_map]; exact hl, h0, hN, by omega⟩, by omega, by omega, by omega, q⟩
theorem flat_rep (N : Nat) : (List.replicate N (ints .u64 zL.1)).flatten = (List.replicate N zL).flatMap lE := by
  unfold List.flatMap lE
  rw [List.map_replicate]
theorem new_T (N : Nat) (a : Int) (w : World) (ha : a = ((N * 8 : Nat) : Int)) (h0 : 0 < N) (hN : N ≤ 16384) :
    Calls Try.prog 33 #[.int .i64 a] w fun e w' => ∃ m gn gl qb, e = .returned (.tuple #[.pointer (some ⟨m, 0, none⟩), .int .i64 0]) ∧ Mem w' m gn gl qb N ((List.replicate N zL).map nwC) ∧ w.heap.size ≤ m ∧ w.heap.size ≤ gn ∧ w.heap.size ≤ gl ∧ w.heap.size ≤ qb ∧ Below w.heap.size w w' := by
  have q := Below.refl w.heap.size w
  subst ha
  have e8 : N * 8 / 8 = N := by omega
  refine X.fn Try.func33 rfl (n := 19) rfl rfl ?_
  refine CC.seq ?_
  refine CC.region ?_
  refine LL.val (R.assign rfl rfl) rfl rfl rfl ?_
  refine LL.val (R.assign rfl rfl) rfl rfl rfl ?_
  refine LL.nilS ?_
  refine CC.seq ?_
  refine CC.seq ?_
  refine CC.region ?_
  refine LL.val (R.move rfl rfl) rfl rfl rfl ?_
  refine LL.val (R.ltF rfl rfl rfl (by omega)) rfl rfl rfl ?_
  refine LL.val (R.move rfl rfl) rfl rfl rfl ?_
  refine LL.val (R.move rfl rfl) rfl rfl rfl ?_
  refine LL.val (R.gtF rfl rfl rfl (by omega)) rfl rfl rfl ?_
  refine LL.val (R.pick rfl rfl rfl) rfl rfl rfl ?_
  refine LL.val (R.move rfl rfl) rfl rfl rfl ?_
  refine LL.val (R.move rfl rfl) rfl rfl rfl ?_
  refine LL.val (R.remNc rfl rfl rfl rfl (by omega)) rfl rfl rfl ?_
  refine LL.val (R.neF rfl rfl rfl (by omega)) rfl rfl rfl ?_
  refine LL.val (R.pick rfl rfl rfl) rfl rfl rfl ?_
  refine LL.nilS ?_
  refine CC.no rfl ?_
  refine CC.skip ?_
  refine EE.thenN ?_
  refine CC.seq ?_
  refine CC.region ?_
  refine LL.val (R.move rfl rfl) rfl rfl rfl ?_
  refine LL.val (R.quoNc rfl rfl rfl rfl (by omega) (by omega)) rfl rfl rfl ?_
  (refine LL.makeE (l := N) (m := N) ElLn rfl (by decide) rfl (by show some (Value.int .i64 ((N * 8 / 8 : Nat) : Int)) = _; rw [e8]) (by show some (Value.int .i64 ((N * 8 / 8 : Nat) : Int)) = _; rw [e8]) (Nat.le_refl _) (by omega) (by omega) rfl rfl ?_; intro W109 g1 eg1 r1 zg1 b106; rw [flat_rep] at r1; have hrl : (List.replicate N zL).length = N := List.length_replicate)
  have zb106 := b106.size
  replace q := q.trans (b106.mono q.size)
  refine LL.call (R.call rfl rfl rfl) rfl rfl rfl (on_any _ _ _ _ (by first | assumption | omega) (by first | assumption | omega) (by first | assumption | omega) (by first | assumption | omega)) ?_
  rintro e W122 ⟨g124, k129, x127, rfl, h123, l125, o126, y128, b121⟩
  refine ⟨_, rfl, ?_⟩
  have zb121 := b121.size
  replace r1 := r1.up b121
  replace b106 := b106.trans (b121.mono b106.size)
  replace q := q.trans (b121.mono q.size)
  refine LL.val (R.assign rfl rfl) rfl rfl rfl ?_
  refine LL.val (R.assign rfl rfl) rfl rfl rfl ?_
  refine LL.nilS ?_
  refine CC.ret ?_
  refine EE.ret _ rfl rfl ?_
  exact ⟨_, _, _, _, rfl, by assumption, by omega, by omega, by omega, by omega, q⟩
--C pmem_New | new_F _ @w @p | ⟨rfl, @b⟩
theorem new_F (a : Int) (w : World) (ha : a < 8 ∨ 131072 < a ∨ a % 8 ≠ 0) :
    Calls Try.prog 33 #[.int .i64 a] w fun e w' => e = .returned (.tuple #[.pointer none, .int .i64 2]) ∧ Below w.heap.size w w' := by
  have q := Below.refl w.heap.size w
  refine X.fn Try.func33 rfl (n := 19) rfl rfl ?_
  refine CC.seq ?_
  refine CC.region ?_
  refine LL.val (R.assign rfl rfl) rfl rfl rfl ?_
  refine LL.val (R.assign rfl rfl) rfl rfl rfl ?_
  refine LL.nilS ?_
  refine CC.seq ?_
  refine CC.seq ?_
  refine CC.region ?_
  refine LL.val (R.move rfl rfl) rfl rfl rfl ?_
  refine LL.vsplit (fun h => R.ltT rfl rfl rfl h) (fun h => R.ltF rfl rfl rfl (Int.not_lt.1 h)) rfl rfl rfl (fun c1 => ?_) (fun c1 => ?_)
  refine LL.val (R.move rfl rfl) rfl rfl rfl ?_
  refine LL.skip rfl rfl ?_
  refine LL.skip rfl rfl ?_
  refine LL.val (R.pick rfl rfl rfl) rfl rfl rfl ?_
  refine LL.val (R.move rfl rfl) rfl rfl rfl ?_
  refine LL.skip rfl rfl ?_
  refine LL.skip rfl rfl ?_
  refine LL.skip rfl rfl ?_
  refine LL.val (R.pick rfl rfl rfl) rfl rfl rfl ?_
  refine LL.nilS ?_
  refine CC.yes rfl ?_
  refine CC.seq ?_
  refine CC.region ?_
  refine LL.val (R.assign rfl rfl) rfl rfl rfl ?_
  refine LL.val (R.assign rfl rfl) rfl rfl rfl ?_
  refine LL.nilS ?_
  refine CC.ret ?_
  refine EE.thenR ?_
  refine EE.ret _ rfl rfl ?_
  exact ⟨rfl, q⟩
  refine LL.val (R.move rfl rfl) rfl rfl rfl ?_
  refine LL.val (R.move rfl rfl) rfl rfl rfl ?_
  refine LL.vsplit (fun h => R.gtT rfl rfl rfl h) (fun h => R.gtF rfl rfl rfl (Int.not_lt.1 h)) rfl rfl rfl (fun c2 => ?_) (fun c2 => ?_)
  refine LL.val (R.pick rfl rfl rfl) rfl rfl rfl ?_
  refine LL.val (R.move rfl rfl) rfl rfl rfl ?_
  refine LL.skip rfl rfl ?_
  refine LL.skip rfl rfl ?_
  refine LL.skip rfl rfl ?_
  refine LL.val (R.pick rfl rfl rfl) rfl rfl rfl ?_
  refine LL.nilS ?_
  refine CC.yes rfl ?_
  refine CC.seq ?_
  refine CC.region ?_
  refine LL.val (R.assign rfl rfl) rfl rfl rfl ?_
  refine LL.val (R.assign rfl rfl) rfl rfl rfl ?_
  refine LL.nilS ?_
  refine CC.ret ?_
  refine EE.thenR ?_
  refine EE.ret _ rfl rfl ?_
  exact ⟨rfl, q⟩
  refine LL.val (R.pick rfl rfl rfl) rfl rfl rfl ?_
  refine LL.val (R.move rfl rfl) rfl rfl rfl ?_
  refine LL.val (R.move rfl rfl) rfl rfl rfl ?_
  refine LL.val (R.remIc rfl rfl rfl rfl (by omega) (by omega)) rfl rfl rfl ?_
  refine LL.val (R.neT rfl rfl rfl (by omega)) rfl rfl rfl ?_
  refine LL.val (R.pick rfl rfl rfl) rfl rfl rfl ?_
  refine LL.nilS ?_
  refine CC.yes rfl ?_
  refine CC.seq ?_
  refine CC.region ?_
  refine LL.val (R.assign rfl rfl) rfl rfl rfl ?_
  refine LL.val (R.assign rfl rfl) rfl rfl rfl ?_
  refine LL.nilS ?_
  refine CC.ret ?_
  refine EE.thenR ?_
  refine EE.ret _ rfl rfl ?_
  exact ⟨rfl, q⟩
/-- The words, line by line. -/
def lnAt (ws : List Nat) (i : Nat) : Ln := ⟨(List.range 8).map fun j => (ws[i * 8 + j]?).getD 0, by simp⟩
def lnS (N : Nat) (ws : List Nat) : List Ln := (List.range N).map (lnAt ws)
theorem lnS_len (N : Nat) (ws : List Nat) : (lnS N ws).length = N := by simp [lnS]
theorem lnS_at {N i : Nat} (ws : List Nat) (h : i < N) : (lnS N ws)[i]? = some (lnAt ws i) := by
  unfold lnS
  rw [List.getElem?_map, List.getElem?_range h]
  rfl
theorem lnAt_nil (i : Nat) : lnAt [] i = zL := Subtype.ext (by simp only [lnAt, zL, List.getElem?_nil, Option.getD_none]; rfl)
theorem lnS_nil (N : Nat) : lnS N [] = List.replicate N zL := by
  refine List.eq_replicate_iff.2 ⟨lnS_len _ _, fun b hb => ?_⟩
  obtain ⟨i, _, rfl⟩ := List.mem_map.1 hb
  exact lnAt_nil i
theorem lnS_succ {N k v : Nat} {ws : List Nat} (hl : ws.length = N * 8) (hv : ws[k]? = some v) : lnS N (ws.take (k + 1)) = (lnS N (ws.take k)).set (k / 8) ⟨(lnAt (ws.take k) (k / 8)).1.set (k % 8) v, by rw [List.length_set]; exact (lnAt _ _).2⟩ := by
  have hk := (List.getElem?_eq_some_iff.1 hv).1
  refine List.ext_getElem? fun i => ?_
  rw [List.getElem?_set]
  by_cases hi : i < N
  · rw [lnS_at _ hi, lnS_at _ hi]
    by_cases he : k / 8 = i
    · subst he
      rw [if_pos rfl, if_pos (by rw [lnS_len]; omega)]
      congr 1
      refine Subtype.ext ?_
      simp only [lnAt]
      refine List.ext_getElem? fun j => ?_
      rw [List.getElem?_map, List.getElem?_set, List.length_map, List.length_range, List.getElem?_map]
      by_cases hj : j < 8
      · rw [List.getElem?_range hj]
        by_cases hjk : k % 8 = j
        · subst hjk
          rw [if_pos rfl, if_pos (by omega)]
          simp only [Option.map_some]
          rw [show k / 8 * 8 + k % 8 = k by omega, List.getElem?_take, if_pos (by omega), hv]
          rfl
        · rw [if_neg hjk]
          simp only [Option.map_some]
          rw [List.getElem?_take, List.getElem?_take]
          by_cases h1 : k / 8 * 8 + j < k
          · rw [if_pos (by omega), if_pos h1]
          · rw [if_neg (by omega), if_neg h1]
      · rw [List.getElem?_eq_none (l := List.range 8) (by simp; omega)]
        by_cases hjk : k % 8 = j
        · omega
        · rw [if_neg hjk]
          rfl
    · rw [if_neg he]
      congr 1
      refine Subtype.ext ?_
      simp only [lnAt]
      refine List.map_congr_left fun j hj => ?_
      have hj := List.mem_range.1 hj
      rw [List.getElem?_take, List.getElem?_take]
      by_cases h1 : i * 8 + j < k
      · rw [if_pos (by omega), if_pos h1]
      · rw [if_neg (by omega), if_neg h1]
  · rw [List.getElem?_eq_none (by rw [lnS_len]; omega), if_neg (by omega), List.getElem?_eq_none (by rw [lnS_len]; omega)]
def mdC (x : Ln) : Cl := (x, zL, none)
theorem md_now (ls : List Ln) : (ls.map mdC).flatMap nowE = ls.flatMap lE := by
  rw [List.flatMap_map]; rfl
theorem md_q (ls : List Ln) : qF (ls.map mdC) = fun _ => none := by
  funext i
  unfold qF
  rw [List.getElem?_map]
  cases ls[i]? <;> rfl
theorem md_n (ls : List Ln) : nQ (ls.map mdC) = 0 := by
  unfold nQ
  rw [List.countP_map]
  induction ls with
  | nil => rfl
  | cons x ls ih => rw [List.countP_cons, ih]; rfl
theorem Mem.put {w w' : World} {m gn gl qb N i : Nat} {s : List Cl} {c u : Cl} (M : Mem w m gn gl qb N s) (hc : s[i]? = some c) (rn : RowL w' gn 85 ((s.set i u).flatMap nowE)) (g : w.grownBy w' (some gn)) (h1 : lastE u = lastE c) (h2 : u.2.2 = c.2.2) : Mem w' m gn gl qb N (s.set i u) := by
  obtain ⟨n1, n2, n3, n4, n5, n6⟩ := M.ne
  exact ⟨M.row.gr g n1, rn, by rw [set_last (u := u) hc h1]; exact M.last.gr g (Ne.symm n4), by rw [qF_set (u := u) hc h2, nQ_set (u := u) hc h2]; exact M.qs.gr g (Ne.symm n5), by rw [List.length_set]; exact M.len, M.pos, M.le, M.ne⟩
def ofS (N : Nat) (ws : List Nat) : List Cl := (lnS N ws).map nwC
theorem of_T (a : Option Addr) (L cp N : Nat) (ws : List Nat) (w : World) (hv : ReadsT uE 1 w (.slice a L cp) ws) (hL : L = N * 8) (h0 : 0 < N) (hN : N ≤ 16384) :
    Calls Try.prog 16 #[.slice a L cp] w fun e w' => ∃ m gn gl qb, e = .returned (.tuple #[.pointer (some ⟨m, 0, none⟩), .int .i64 0]) ∧ Mem w' m gn gl qb N (ofS N ws) ∧ w.heap.size ≤ m ∧ w.heap.size ≤ gn ∧ w.heap.size ≤ gl ∧ w.heap.size ≤ qb ∧ Below w.heap.size w w' := by
  have q := Below.refl w.heap.size w
  have hlen : ws.length = L := by obtain ⟨_, _, e, _⟩ := hv; cases e; rfl
  have hvF : ∀ W, Below w.heap.size w W → ReadsT uE 1 W (.slice a L cp) ws := fun W hb => hv.up hb
  clear hv
  refine X.fn Try.func16 rfl (n := 41) rfl rfl ?_
  refine CC.seq ?_
  refine CC.region ?_
  refine LL.val (R.assign rfl rfl) rfl rfl rfl ?_
  refine LL.val (R.assign rfl rfl) rfl rfl rfl ?_
  refine LL.nilS ?_
  refine CC.seq ?_
  refine CC.region ?_
  refine LL.val (R.move rfl rfl) rfl rfl rfl ?_
  refine LL.val (R.len rfl rfl rfl rfl) rfl rfl rfl ?_
  (refine LL.call (R.call rfl rfl rfl) rfl rfl rfl (new_T N (L : Int) _ (by rw [hL]) h0 hN) ?_; rintro e W32 ⟨m, gn, gl, qb, rfl, M, lm, ln, ll, lq, b29⟩; refine ⟨_, rfl, ?_⟩)
  have zb29 := b29.size
  replace q := q.trans (b29.mono q.size)
  refine LL.val (R.move rfl rfl) rfl rfl rfl ?_
  refine LL.val (R.extract rfl rfl rfl) rfl rfl rfl ?_
  refine LL.val (R.extract rfl rfl rfl) rfl rfl rfl ?_
  refine LL.val (R.assign rfl rfl) rfl rfl rfl ?_
  refine LL.val (R.assign rfl rfl) rfl rfl rfl ?_
  refine LL.nilS ?_
  refine CC.seq ?_
  refine CC.seq ?_
  refine CC.region ?_
  refine LL.val (R.move rfl rfl) rfl rfl rfl ?_
  refine LL.val (R.neF rfl rfl rfl (by omega)) rfl rfl rfl ?_
  refine LL.nilS ?_
  refine CC.no rfl ?_
  refine CC.skip ?_
  refine EE.thenN ?_
  refine CC.seq ?_
  refine CC.seq ?_
  refine CC.region ?_
  refine LL.val (R.move rfl rfl) rfl rfl rfl ?_
  refine LL.val (R.len rfl rfl rfl rfl) rfl rfl rfl ?_
  refine LL.val (R.move rfl rfl) rfl rfl rfl ?_
  refine LL.nilS ?_
  refine CC.block ?_
  have yq := q.size
  have hst : (List.replicate N zL).map nwC = (lnS N (ws.take 0)).map mdC := by
    rw [List.take_zero, lnS_nil, List.map_replicate, List.map_replicate]
    rfl
  rw [hst] at M
  have hmd : ∀ k i, i < N → ((lnS N (ws.take k)).map mdC)[i]? = some (mdC (lnAt (ws.take k) i)) := fun k i hi => by
    rw [List.getElem?_map, lnS_at _ hi]
    rfl
  refine CC.loop (α := Nat) (fun k => [(4, .pointer (some ⟨m, 0, none⟩)), (17, .slice a L cp), (18, .int .i64 (L : Int)), (19, .int .i64 (k : Int))]) (fun k W => k ≤ L ∧ Below w.heap.size w W ∧ Mem W m gn gl qb N ((lnS N (ws.take k)).map mdC)) (fun k => L - k) 0 ⟨rfl, rfl, rfl, rfl, trivial⟩ ⟨by show 0 ≤ L; omega, q, M⟩ ?_
  clear q M hst
  rintro k W ⟨hk, q, M⟩
  show CC none Try.prog _ 41 [] (sl [(4, .pointer (some ⟨m, 0, none⟩)), (17, .slice a L cp), (18, .int .i64 (L : Int)), (19, .int .i64 (k : Int))]) _ W
  obtain ⟨n1, n2, n3, n4, n5, n6⟩ := M.ne
  have yw := q.size
  by_cases hlt : k < L
  case neg =>
    obtain rfl : k = L := by omega
    have hr := M.row
    have hn := M.now
    rw [List.take_of_length_le (by omega)] at M hn
    have hml : ((lnS N ws).map mdC).length = N := by rw [List.length_map, lnS_len]
    have hq : MapK (.int .i64) iK lV W qb 0 (fun _ => none) := by have := M.qs; rwa [md_q, md_n] at this
    have lt := M.lts
    clear M
    refine CC.seq ?_
    refine CC.region ?_
    refine LL.val (R.ltF rfl rfl rfl (by omega)) rfl rfl rfl ?_
    refine LL.nilS ?_
    refine CC.seq ?_
    refine CC.no rfl ?_
    refine CC.exit ?_
    refine EE.thenX ?_
    refine EE.thenX ?_
    refine EE.inX ?_
    refine EE.thenN ?_
    refine CC.seq ?_
    refine CC.region ?_
    refine LL.val (R.move rfl rfl) rfl rfl rfl ?_
    refine LL.val (R.move rfl rfl) rfl rfl rfl ?_
    refine LL.val (R.nil rfl rfl) rfl rfl rfl ?_
    refine LL.val (R.field rfl rfl (I.fld rfl)) rfl rfl rfl ?_
    refine LL.val (R.field rfl rfl (I.fld rfl)) rfl rfl rfl ?_
    refine LL.val (R.load rfl rfl (I.ld1 rfl (RowL.cell hr rfl))) rfl rfl rfl ?_
    have la68 := hr.lt
    have la69 := hn.lt
    (refine LL.call (R.call rfl rfl rfl) rfl rfl rfl (moved_any nowEnc _ _ _ _ hn hml hN) ?_; rintro e Wa67 ⟨g2, rfl, rg2, lg2, lg3, ba64⟩; refine ⟨_, rfl, ?_⟩)
    have zba64 := ba64.size
    replace q := q.trans (ba64.mono q.size)
    replace hr := hr.up ba64
    replace hn := hn.up ba64
    replace hq := hq.up ba64
    refine LL.val (R.nil rfl rfl) rfl rfl rfl ?_
    refine LL.val (R.field rfl rfl (I.fld rfl)) rfl rfl rfl ?_
    refine LL.store rfl rfl rfl rfl hr (by exact Nat.le_of_ble_eq_true rfl) rfl rfl rfl rfl ?_
    intro Wa104 ra105 ba103 za106
    have hlba103 := hr.lt
    replace ra105 : RowL Wa104 _ 82 [Value.slice (some { block := gn, off := 0 }) N N, Value.slice (some { block := g2, off := 0 }) N N, Value.map (some qb)] := ra105
    clear hr
    replace rg2 := rg2.gr ba103 (by have := rg2.lt; omega)
    replace q := q.grown ba103 q.size (by rintro k ⟨⟩; omega)
    replace hn := hn.gr ba103 (by have := hn.lt; omega)
    replace hq := hq.gr ba103 (by have := hq.lt; omega)
    have hr := ra105
    clear ra105
    refine LL.nilS ?_
    refine CC.seq ?_
    refine CC.region ?_
    refine LL.val (R.move rfl rfl) rfl rfl rfl ?_
    refine LL.val (R.assign rfl rfl) rfl rfl rfl ?_
    refine LL.val (R.assign rfl rfl) rfl rfl rfl ?_
    refine LL.nilS ?_
    refine CC.ret ?_
    refine EE.ret _ rfl rfl ?_
    exact ⟨m, gn, g2, qb, rfl, ⟨by assumption, by rw [ofS, nw_now, ← md_now]; exact hn, by rw [ofS, nw_last, ← md_now]; exact rg2, by rw [ofS, nw_q, nw_n]; exact hq, by rw [ofS, List.length_map, lnS_len], h0, hN, by omega⟩, by omega, by omega, by omega, by omega, q⟩
  obtain ⟨v, hvk⟩ : ∃ v, ws[k]? = some v := ⟨_, List.getElem?_eq_getElem (by omega)⟩
  obtain ⟨b, off, rfl, hb, hcell⟩ := (hvF W q).one uEnc hvk
  have c1 : W.cell? ⟨b, off + k, none⟩ = some (.int .u64 (v : Int)) := hcell _ rfl
  have hc := hmd k (k / 8) (by omega)
  have hsx := lnS_succ (N := N) (by omega) hvk
  refine CC.seq ?_
  refine CC.region ?_
  refine LL.val (R.ltT rfl rfl rfl (by omega)) rfl rfl rfl ?_
  refine LL.nilS ?_
  refine CC.seq ?_
  refine CC.yes rfl ?_
  refine CC.skip ?_
  refine EE.thenN ?_
  refine CC.seq ?_
  refine CC.block ?_
  refine CC.seq ?_
  refine CC.region ?_
  refine LL.val (R.move rfl rfl) rfl rfl rfl ?_
  refine LL.val (R.index rfl rfl rfl (I.ixS1 rfl (by omega))) rfl rfl rfl ?_
  refine LL.val (R.load rfl rfl (I.ld1 rfl (by assumption))) rfl rfl rfl ?_
  refine LL.val (R.assign rfl rfl) rfl rfl rfl ?_
  refine LL.val (R.assign rfl rfl) rfl rfl rfl ?_
  refine LL.nilS ?_
  refine CC.region ?_
  refine LL.val (R.move rfl rfl) rfl rfl rfl ?_
  refine LL.val (R.nil rfl rfl) rfl rfl rfl ?_
  refine LL.val (R.field rfl rfl (I.fld rfl)) rfl rfl rfl ?_
  refine LL.val (R.move rfl rfl) rfl rfl rfl ?_
  refine LL.val (R.move rfl rfl) rfl rfl rfl ?_
  (refine LL.call (R.call rfl rfl rfl) rfl rfl rfl (put_any m gn N k v M.row M.now M.len M.le hc) ?_; rintro e Wb81 ⟨rfl, rn, grb79, z5⟩; refine ⟨_, rfl, ?_⟩; replace M := M.put hc rn grb79 rfl rfl)
  have zgrb79 := grb79.size
  replace q := q.grown grb79 q.size (by rintro k ⟨⟩; omega)
  refine LL.nil ?_
  refine EE.inN ?_
  refine EE.thenN ?_
  refine CC.region ?_
  refine LL.val (R.addNc rfl rfl rfl rfl (by omega)) rfl rfl rfl ?_
  refine LL.val (R.move rfl rfl) rfl rfl rfl ?_
  refine LL.nil ?_
  exact EE.round (k + 1) ⟨rfl, rfl, rfl, rfl, trivial⟩ ⟨by show k + 1 ≤ L; omega, q, by rw [hsx, List.map_set]; exact M⟩ (by show L - (k + 1) < L - k; omega)
--C pmem_Of | of_F _ _ _ @w @p @p | ⟨rfl, @b⟩
theorem of_F (a : Option Addr) (L cp : Nat) (w : World) (hL : L < 8 ∨ 131072 < L ∨ L % 8 ≠ 0) (hL2 : L ≤ 9223372036854775807) :
    Calls Try.prog 16 #[.slice a L cp] w fun e w' => e = .returned (.tuple #[.pointer none, .int .i64 2]) ∧ Below w.heap.size w w' := by
  have q := Below.refl w.heap.size w
  refine X.fn Try.func16 rfl (n := 41) rfl rfl ?_
  refine CC.seq ?_
  refine CC.region ?_
  refine LL.val (R.assign rfl rfl) rfl rfl rfl ?_
  refine LL.val (R.assign rfl rfl) rfl rfl rfl ?_
  refine LL.nilS ?_
  refine CC.seq ?_
  refine CC.region ?_
  refine LL.val (R.move rfl rfl) rfl rfl rfl ?_
  refine LL.val (R.len rfl rfl rfl rfl) rfl rfl rfl ?_
  refine LL.call (R.call rfl rfl rfl) rfl rfl rfl (new_F _ _ (by first | assumption | omega)) ?_
  rintro e W2 ⟨rfl, b1⟩
  refine ⟨_, rfl, ?_⟩
  have zb1 := b1.size
  replace q := q.trans (b1.mono q.size)
  refine LL.val (R.move rfl rfl) rfl rfl rfl ?_
  refine LL.val (R.extract rfl rfl rfl) rfl rfl rfl ?_
  refine LL.val (R.extract rfl rfl rfl) rfl rfl rfl ?_
  refine LL.val (R.assign rfl rfl) rfl rfl rfl ?_
  refine LL.val (R.assign rfl rfl) rfl rfl rfl ?_
  refine LL.nilS ?_
  refine CC.seq ?_
  refine CC.seq ?_
  refine CC.region ?_
  refine LL.val (R.move rfl rfl) rfl rfl rfl ?_
  refine LL.val (R.neT rfl rfl rfl (by omega)) rfl rfl rfl ?_
  refine LL.nilS ?_
  refine CC.yes rfl ?_
  refine CC.seq ?_
  refine CC.region ?_
  refine LL.val (R.move rfl rfl) rfl rfl rfl ?_
  refine LL.val (R.assign rfl rfl) rfl rfl rfl ?_
  refine LL.val (R.assign rfl rfl) rfl rfl rfl ?_
  refine LL.nilS ?_
  refine CC.ret ?_
  refine EE.thenR ?_
  refine EE.ret _ rfl rfl ?_
  exact ⟨rfl, q⟩
--C pmem_Memory_Image | image_any _ _ _ _ _ @w @p | ⟨@v, rfl, @h, @b⟩
theorem image_any (m gn gl qb N : Nat) (w : World) {s : List Cl} (M : Mem w m gn gl qb N s) : Calls Try.prog 23 #[.pointer (some ⟨m, 0, none⟩)] w fun e w' => ∃ v, e = .returned v ∧ ReadsT uE 1 w' v (wdS (fun c => c.1) s) ∧ Below w.heap.size w w' := by
  have q := Below.refl w.heap.size w
  have hr := M.row
  have hn : RowL w gn 85 (s.flatMap fun c => lE c.1) := M.now
  have hl := M.len
  have h0 := M.pos
  have hN := M.le
  refine X.fn Try.func23 rfl (n := 11) rfl rfl ?_
  refine CC.seq ?_
  refine CC.region ?_
  refine LL.val (R.assign rfl rfl) rfl rfl rfl ?_
  refine LL.nilS ?_
  refine CC.seq ?_
  refine CC.seq ?_
  refine CC.region ?_
  refine LL.val (R.move rfl rfl) rfl rfl rfl ?_
  refine LL.call (R.call rfl rfl rfl) rfl rfl rfl (none_F _ _ (by first | assumption | omega) (by first | assumption | omega)) ?_
  rintro e W' ⟨rfl, rfl⟩
  refine ⟨_, rfl, ?_⟩
  refine LL.nilS ?_
  refine CC.no rfl ?_
  refine CC.skip ?_
  refine EE.thenN ?_
  refine CC.seq ?_
  refine CC.region ?_
  refine LL.val (R.move rfl rfl) rfl rfl rfl ?_
  refine LL.val (R.nil rfl rfl) rfl rfl rfl ?_
  refine LL.val (R.field rfl rfl (I.fld rfl)) rfl rfl rfl ?_
  refine LL.val (R.field rfl rfl (I.fld rfl)) rfl rfl rfl ?_
  refine LL.val (R.load rfl rfl (I.ld1 rfl (RowL.cell hr rfl))) rfl rfl rfl ?_
  refine LL.call (R.call rfl rfl rfl) rfl rfl rfl (flat_any (fun c => c.1) _ _ _ _ (by first | assumption | omega) (by first | assumption | omega) (by first | assumption | omega)) ?_
  rintro e W2 ⟨v4, rfl, h3, b1⟩
  refine ⟨_, rfl, ?_⟩
  have zb1 := b1.size
  replace M := M.up b1
  replace q := q.trans (b1.mono q.size)
  replace hr := hr.up b1
  replace hn := hn.up b1
  refine LL.val (R.assign rfl rfl) rfl rfl rfl ?_
  refine LL.nilS ?_
  refine CC.ret ?_
  refine EE.ret _ rfl rfl ?_
  exact ⟨_, rfl, by assumption, q⟩
--C pmem_Memory_Len | len_any _ _ _ _ _ @w @p | S
theorem len_any (m gn gl qb N : Nat) (w : World) {s : List Cl} (M : Mem w m gn gl qb N s) : Calls Try.prog 37 #[.pointer (some ⟨m, 0, none⟩)] w fun e w' => e = .returned (.int .i64 ((N * 8 : Nat) : Int)) ∧ w = w' := by
  have hr := M.row
  have h0 := M.pos
  have hN := M.le
  refine X.fn Try.func37 rfl (n := 9) rfl rfl ?_
  refine CC.seq ?_
  refine CC.region ?_
  refine LL.val (R.assign rfl rfl) rfl rfl rfl ?_
  refine LL.nilS ?_
  refine CC.seq ?_
  refine CC.seq ?_
  refine CC.region ?_
  refine LL.val (R.move rfl rfl) rfl rfl rfl ?_
  refine LL.call (R.call rfl rfl rfl) rfl rfl rfl (none_F _ _ (by first | assumption | omega) (by first | assumption | omega)) ?_
  rintro e W' ⟨rfl, rfl⟩
  refine ⟨_, rfl, ?_⟩
  refine LL.nilS ?_
  refine CC.no rfl ?_
  refine CC.skip ?_
  refine EE.thenN ?_
  refine CC.seq ?_
  refine CC.region ?_
  refine LL.val (R.move rfl rfl) rfl rfl rfl ?_
  refine LL.val (R.nil rfl rfl) rfl rfl rfl ?_
  refine LL.val (R.field rfl rfl (I.fld rfl)) rfl rfl rfl ?_
  refine LL.call (R.call rfl rfl rfl) rfl rfl rfl (words_any _ _ (by first | assumption | omega) (by first | assumption | omega)) ?_
  rintro e W' ⟨rfl, rfl⟩
  refine ⟨_, rfl, ?_⟩
  refine LL.val (R.assign rfl rfl) rfl rfl rfl ?_
  refine LL.nilS ?_
  refine CC.ret ?_
  refine EE.ret _ rfl rfl ?_
  exact ⟨rfl, rfl⟩
def feC (c : Cl) : Cl := (c.1, c.2.2.getD c.2.1, none)
theorem last_flat (s : List Cl) : s.flatMap lastE = (s.map fun c => c.2.1).flatMap lE := by
  rw [List.flatMap_map]; rfl
theorem qF_some {s : List Cl} {i : Nat} {x : Ln} (h : qF s i = some x) : ∃ c, s[i]? = some c ∧ c.2.2 = some x := by
  unfold qF at h
  cases hc : s[i]? with
  | none => rw [hc] at h; cases h
  | some c => rw [hc] at h; exact ⟨c, rfl, h⟩
theorem fe_q (s : List Cl) : qF (s.map feC) = fun _ => none := by
  funext i
  unfold qF
  rw [List.getElem?_map]
  cases s[i]? <;> rfl
theorem fe_n (s : List Cl) : nQ (s.map feC) = 0 := by
  unfold nQ
  rw [List.countP_map]
  induction s with
  | nil => rfl
  | cons x ls ih => rw [List.countP_cons, ih]; rfl
set_option maxRecDepth 100000
set_option maxHeartbeats 4000000
theorem fence_any (w : World) (m gn gl qb N : Nat) {s : List Cl} (M : Mem w m gn gl qb N s) :
    Calls Try.prog 43 #[.pointer (some ⟨m, 0, none⟩)] w fun e w' => e = .returned (.int .i64 0) ∧ Mem w' m gn gl qb N (s.map feC) ∧ Kept (KM w gn gl qb) w w' := by
  have hr := M.row
  have h0 := M.pos
  have hN := M.le
  have hn := M.now
  have ha := M.last
  have hq := M.qs
  have hl := M.len
  obtain ⟨n1, n2, n3, n4, n5, n6⟩ := M.ne
  have lt := M.lts
  have hok := Kept.refl (KM w gn gl qb) w
  clear M
  refine X.fn Try.func43 rfl (n := 28) rfl rfl ?_
  refine CC.seq ?_
  refine CC.region ?_
  refine LL.val (R.assign rfl rfl) rfl rfl rfl ?_
  refine LL.nilS ?_
  refine CC.seq ?_
  refine CC.seq ?_
  refine CC.region ?_
  refine LL.val (R.move rfl rfl) rfl rfl rfl ?_
  refine LL.call (R.call rfl rfl rfl) rfl rfl rfl (none_F _ _ (by first | assumption | omega) (by first | assumption | omega)) ?_
  rintro e W' ⟨rfl, rfl⟩
  refine ⟨_, rfl, ?_⟩
  refine LL.nilS ?_
  refine CC.no rfl ?_
  refine CC.skip ?_
  refine EE.thenN ?_
  refine CC.seq ?_
  refine CC.seq ?_
  refine CC.region ?_
  refine LL.val (R.move rfl rfl) rfl rfl rfl ?_
  refine LL.val (R.nil rfl rfl) rfl rfl rfl ?_
  refine LL.val (R.field rfl rfl (I.fld rfl)) rfl rfl rfl ?_
  refine LL.val (R.load rfl rfl (I.ld1 rfl (RowL.cell hr rfl))) rfl rfl rfl ?_
  have l75 := hr.lt
  have l76 := hn.lt
  have l77 := ha.lt
  (refine LL.mrange rfl rfl iKeys rfl hq rfl rfl ?_; clear hq; intro W74 it eit rg b71 zit; replace hok := hok.trans (bkept b71 fun j h => h.1))
  have zb71 := b71.size
  replace hr := hr.up b71
  replace hn := hn.up b71
  replace ha := ha.up b71
  have y81 := hok.size
  refine LL.nilS ?_
  refine CC.block ?_
  have yk := hok.size
  refine CC.loop (α := List Cl × (Nat → Prop) × Nat) (fun _ => [(0, .pointer (some ⟨m, 0, none⟩)), (11, .pointer (some ⟨it, 0, none⟩))]) (fun st W => Kept (KM w gn gl qb) w W ∧ it < W.heap.size ∧ RowL W m 82 [.slice (some ⟨gn, 0, none⟩) N N, .slice (some ⟨gl, 0, none⟩) N N, .map (some qb)] ∧ RowL W gn 85 (s.flatMap nowE) ∧ RowL W gl 85 (st.1.flatMap lastE) ∧
      RangeK (.int .i64) iK lV W qb it (nQ s) (qF s) st.2.1 st.2.2 ∧ st.1.length = N ∧ ∀ i c t, s[i]? = some c → st.1[i]? = some t → (st.2.1 i → t.2.1 = c.2.1) ∧ (¬ st.2.1 i → t.2.1 = c.2.2.getD c.2.1)) (fun st => st.2.2) (s, (fun i => qF s i ≠ none), nQ s) ⟨rfl, rfl, trivial⟩
    ⟨hok, by omega, hr, hn, ha, rg, hl, fun i c t h1 h2 => by
      simp only at h2
      rw [h1] at h2
      cases h2
      refine ⟨fun _ => rfl, fun h => ?_⟩
      simp only [ne_eq, Decidable.not_not, qF_at h1] at h
      rw [h]
      rfl⟩ ?_
  clear hok hr hn ha rg
  rintro ⟨ts, left, cnt⟩ W ⟨hok, hit, hr, hn, ha, rg, hlt, hall⟩
  simp only at ha rg hlt hall
  show CC none Try.prog _ 28 [] (sl [(0, .pointer (some ⟨m, 0, none⟩)), (11, .pointer (some ⟨it, 0, none⟩))]) _ W
  have yk2 := hok.size
  refine CC.seq ?_
  refine CC.region ?_
  refine LL.mnext rfl rfl iKeys rg rfl rfl (fun hno => ?_) (fun i x W5 cn hlf hfi rg2 hcn g5 z5 hen => ?_)
  · have hq := rg.map
    clear rg
    refine LL.val (R.extract rfl rfl rfl) rfl rfl rfl ?_
    refine LL.nilS ?_
    refine CC.seq ?_
    refine CC.no rfl ?_
    refine CC.exit ?_
    refine EE.thenX ?_
    refine EE.thenX ?_
    refine EE.inX ?_
    refine EE.thenN ?_
    refine CC.seq ?_
    refine CC.region ?_
    refine LL.val (R.move rfl rfl) rfl rfl rfl ?_
    refine LL.val (R.nil rfl rfl) rfl rfl rfl ?_
    refine LL.val (R.field rfl rfl (I.fld rfl)) rfl rfl rfl ?_
    refine LL.val (R.load rfl rfl (I.ld1 rfl (RowL.cell hr rfl))) rfl rfl rfl ?_
    (refine LL.mclear rfl rfl rfl hq rfl rfl ?_; intro W6 mq g6 z6)
    refine LL.nilS ?_
    refine CC.seq ?_
    refine CC.region ?_
    refine LL.val (R.assign rfl rfl) rfl rfl rfl ?_
    refine LL.nilS ?_
    refine CC.ret ?_
    refine EE.ret _ rfl rfl ?_
    refine ⟨rfl, ⟨hr.gr g6 n3, by rw [show (s.map feC).flatMap nowE = s.flatMap nowE by rw [List.flatMap_map]; rfl]; exact hn.gr g6 n5, ?_, by rw [fe_q, fe_n]; exact mq, by rw [List.length_map]; exact hl, h0, hN, by omega⟩, km_gr hok g6 (.inr (.inr rfl))⟩
    have e1 : (s.map feC).flatMap lastE = ts.flatMap lastE := by
      rw [last_flat, last_flat]
      congr 1
      refine List.ext_getElem? fun i => ?_
      rw [List.getElem?_map, List.getElem?_map, List.getElem?_map]
      rcases Nat.lt_or_ge i N with hi | hi
      · obtain ⟨c, hc⟩ : ∃ c, s[i]? = some c := ⟨_, List.getElem?_eq_getElem (by omega)⟩
        obtain ⟨t, ht⟩ : ∃ t, ts[i]? = some t := ⟨_, List.getElem?_eq_getElem (by omega)⟩
        rw [hc, ht]
        simp only [Option.map_some]
        rw [(hall i c t hc ht).2 (hno i)]
        rfl
      · rw [List.getElem?_eq_none (by omega), List.getElem?_eq_none (by omega)]
        rfl
    rw [e1]
    exact ha.gr g6 n6
  · obtain ⟨c, hc, hcx⟩ := qF_some hfi
    have hi := (List.getElem?_eq_some_iff.1 hc).1
    obtain ⟨t, ht⟩ : ∃ t, ts[i]? = some t := ⟨_, List.getElem?_eq_getElem (by omega)⟩
    replace hr := hr.gr g5 (by omega)
    replace hn := hn.gr g5 (by omega)
    replace ha := ha.gr g5 (by omega)
    replace hok : Kept (KM w gn gl qb) w W5 := hok.trans (grown_kept g5 (fun j hj => by have := hj.1; omega) fun j hj e => by cases e; have := hj.1; omega)
    clear rg
    refine LL.val (R.extract rfl rfl rfl) rfl rfl rfl ?_
    refine LL.nilS ?_
    refine CC.seq ?_
    refine CC.yes rfl ?_
    refine CC.skip ?_
    refine EE.thenN ?_
    refine CC.block ?_
    refine CC.seq ?_
    refine CC.region ?_
    (refine LL.val (R.entry rfl rfl hen) rfl rfl rfl ?_)
    refine LL.val (R.extract rfl rfl rfl) rfl rfl rfl ?_
    refine LL.val (R.extract rfl rfl rfl) rfl rfl rfl ?_
    have lc57 := hr.lt
    have lc58 := hn.lt
    have lc59 := ha.lt
    refine LL.alloc ([Value.int IntKind.u64 0, Value.int IntKind.u64 0, Value.int IntKind.u64 0, Value.int IntKind.u64 0, Value.int IntKind.u64 0, Value.int IntKind.u64 0, Value.int IntKind.u64 0, Value.int IntKind.u64 0]) rfl rfl rfl rfl rfl ?_
    intro Wc61 gc62 egc62 rc63 zc64 bc60
    replace rg2 := rg2.up bc60
    replace hr := hr.up bc60
    replace hn := hn.up bc60
    replace ha := ha.up bc60
    replace hok := hok.trans (bkept bc60 (fun j h => by have := h.1; have := hok.size; omega))
    have yc65 := hok.size
    refine LL.val (R.assign rfl rfl) rfl rfl rfl ?_
    (refine LL.storeAll rfl rfl rfl rfl (lE_len x) (by assumption) rfl (lE_one x) rfl rfl ?_; intro Wc83 r5 grc81 z5; have c5 := ln_cells r5)
    have zgrc81 := grc81.size
    replace bc60 := bc60.grown grc81 bc60.size (by rintro k ⟨⟩; omega)
    replace rg2 := rg2.gr grc81 (by have := rg2.lt; omega)
    replace hr := hr.gr grc81 (by have := hr.lt; omega)
    replace hn := hn.gr grc81 (by have := hn.lt; omega)
    replace ha := ha.gr grc81 (by have := ha.lt; omega)
    replace hok := hok.trans (grown_kept grc81 (fun j h => by have := h.1; have := hok.size; omega) (fun j h e => by cases e; have h2 := h.1; have h3 := h.2; omega))
    refine LL.nilS ?_
    refine CC.tailB 7 (by kernel_rfl) (by kernel_rfl) (fun Wc88 bc87 zc89 => ?_)
    replace r5 := r5.up bc87
    replace c5 := c5.up bc87
    replace bc60 := bc60.trans (bc87.mono bc60.size)
    replace rg2 := rg2.up bc87
    replace hr := hr.up bc87
    replace hn := hn.up bc87
    replace ha := ha.up bc87
    replace hok := hok.trans (bkept bc87 (fun j h => by have := h.1; have := hok.size; omega))
    have yc90 := hok.size
    refine SS.val (R.move rfl rfl) rfl rfl ?_
    refine SS.val (R.nil rfl rfl) rfl rfl ?_
    refine SS.val (R.field rfl rfl (I.fld rfl)) rfl rfl ?_
    refine SS.val (R.load rfl rfl (I.ld1 rfl (RowL.cell hr rfl))) rfl rfl ?_
    refine SS.val (R.move rfl rfl) rfl rfl ?_
    refine SS.val (R.load rfl rfl (I.ldM (by assumption) rfl rfl)) rfl rfl ?_
    refine SS.val (R.index rfl rfl rfl (I.ixS rfl (by omega))) rfl rfl ?_
    refine SS.nil ?_
    (refine LL.storeR i (t.1, x, t.2.2) rfl rfl (by show 0 + i * 8 = i * 8; omega) rfl rfl lastEnc ha (by omega) rfl rfl ?_; intro Wc199 ra grc197 z6)
    have zgrc197 := grc197.size
    replace r5 := r5.gr grc197 (by have := r5.lt; omega)
    replace c5 := c5.gr grc197 (by have := c5.lt; omega)
    replace rg2 := rg2.gr grc197 (by have := rg2.lt; omega)
    replace hr := hr.gr grc197 (by have := hr.lt; omega)
    replace hn := hn.gr grc197 (by have := hn.lt; omega)
    replace hok := hok.trans (grown_kept grc197 (fun j h => by have := h.1; have := hok.size; omega) (fun j h e => by cases e; have h2 := h.1; have h3 := h.2; omega))
    refine LL.nil ?_
    refine EE.inN ?_
    refine EE.round (ts.set i (t.1, x, t.2.2), (fun a => left a ∧ a ≠ i), cn) ⟨rfl, rfl, trivial⟩ ⟨hok, by omega, hr, hn, ra, rg2, by show (ts.set i _).length = N; rw [List.length_set]; exact hlt, ?_⟩ (by show cn < cnt; exact hcn)
    intro j c' t' hj ht'
    simp only at ht' ⊢
    rw [List.getElem?_set] at ht'
    by_cases hji : i = j
    · subst hji
      rw [if_pos rfl, if_pos (by omega)] at ht'
      cases ht'
      rw [hc] at hj
      cases hj
      refine ⟨fun h => absurd rfl h.2, fun _ => ?_⟩
      rw [hcx]
      rfl
    · rw [if_neg hji] at ht'
      have := hall j c' t' hj ht'
      exact ⟨fun h => this.1 h.1, fun h => this.2 fun hl => h ⟨hl, fun e => hji e.symm⟩⟩
end Go.Proofs.Ytcmgpfahpmkeoaa

/- Maps in drawn regions that make memory. Over any program. -/
namespace Go.Proofs.Ytcmgpfahpmkeoaa
set_option linter.unusedVariables false
set_option linter.unusedSimpArgs false
open Go.RowKit Go.Shelf
section
variable {P : Program} {w : World} {t : TypeId} {o : Oper} {x y : Operand} {n i : Nat} {D : List Deferred} {M : Slots} {ops : Array Oper} {ok : World → Prop} {K : Slots → World → Prop}
theorem ZR.makeMap (hi : ops[i]? = some o) (hr : Runs P n D M o w (.value (.map (some w.heap.size))) (w.alloc (.map #[] 0))) (hd : dstB n o.dst = true) (hg : wantB ops M o.guard = some true)
    (c : ∀ w1 g, g = w.heap.size → (∀ (α β : Type) (d : TypeDesc) (ke : α → Value) (ve : β → Value), MapK d ke ve w1 g 0 (fun _ => none)) → w1.heap.size = g + 1 → Below w.heap.size w w1 → ok w1 ∧ K (putM M o.dst (.map (some g))) w1) : SR P ops ok i K n D M w :=
  have h := c _ _ rfl (fun _ _ _ _ _ => (MapK.made w).2 fun _ => rfl) (by simp) (Below.alloc0 w _)
  SR.val hi hr hd hg h.1 h.2
theorem fzMap {α β : Type} {d : TypeDesc} {ke : α → Value} {ve : β → Value} {K : Nat → Prop} {b m : Nat} {f : α → Option β} (h : MapK d ke ve w b m f) (hg : K b) : ∀ w', Kept K w w' → MapK d ke ve w' b m f := fun _ hk => h.kept hk hg
end
end Go.Proofs.Ytcmgpfahpmkeoaa
