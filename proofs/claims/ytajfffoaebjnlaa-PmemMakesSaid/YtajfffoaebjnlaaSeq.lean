/- Ranges over functions, anew: a round knows that the iterator's own rows lie below its own; what the round's variables are is told by more than the element. -/
import Derived.Test.YtajfffoaebjnlaaRes
import Derived.Scope
namespace Go.Proofs.Ytajfffoaebjnlaa
set_option linter.unusedVariables false
set_option linter.unusedSimpArgs false
open Go.RowKit Go.Shelf

/-- WHAT AN ITERATOR'S VALUE GIVES: one of the lists of S, or a beginning of one, where a round has said 'no more'. -/
def GivesM {α : Type} (P : Program) (g : Nat) (lb : Array Value) (encs : α → Array Value) (D : Nat → Prop) (S : List α → Prop) (w : World) : Prop :=
  ∀ (l : Nat) (J Jx : Nat → List α → World → Prop) (W : World), Below w.heap.size w W → (∀ m, Abides W.heap.size m (J m)) → (∀ m, Abides W.heap.size m (Jx m)) →
    (∀ m pre x W1, W.heap.size ≤ m → m ≤ W1.heap.size → J m pre W1 → Part S (pre ++ [x]) → YieldAt Fence.wide 3 P l (encs x) W1 fun e W' =>
      Stays W.heap.size m W1 W' ∧ ((e = .returned (.bool true) ∧ J m (pre ++ [x]) W' ∧ Keeps D W1 W') ∨ (e = .returned (.bool false) ∧ Jx m (pre ++ [x]) W'))) →
    (∀ m, J m [] W) →
    Calls P g (#[.func (.yield l) #[] #[]] ++ lb) W fun e W' => (∃ v, e = .returned v) ∧ ((∃ m xs, S xs ∧ J m xs W') ∨ (∃ m pre, Part S pre ∧ Jx m pre W'))

theorem GivesM.later {α : Type} {P : Program} {g : Nat} {lb : Array Value} {encs : α → Array Value} {D : Nat → Prop} {S : List α → Prop} {w w' : World}
    (h : GivesM P g lb encs D S w) (hb : Below w.heap.size w w') : GivesM P g lb encs D S w' :=
  fun l J Jx W hW hJ hJx hY h0 => h l J Jx W (hb.trans (hW.mono hb.size)) hJ hJx hY h0

section core
variable {α : Type} {P : Program}

theorem coreM {l B d gf : Nat} {D : Nat → Prop} {fn : FuncId} {tm : Array Value} {ps : Array Tmp} {assign body : Code} {lb : Array Value} {encs : α → Array Value} {S : List α → Prop} {w0 W1 : World}
    (hseq : GivesM P gf lb encs D S w0) (hb : Below w0.heap.size w0 W1)
    (hl : W1.heap[l]? = some (.loop { state := .ready, pending := none, fn, tmps := tm, params := ps, assign, body, defers := d }))
    (hBl : B ≤ l) (hn : ∀ k, D k → k < l) (hps : ∀ x, (encs x).size = ps.size)
    (I : Nat → List α → World → Prop) (Ix : Code → Nat → List α → World → Prop) (hI : ∀ m, Abides B m (I m)) (hIx : ∀ c m, Abides B m (Ix c m)) (h0 : ∀ m, I m [] W1)
    (Ax : α → Act → World → Prop) (hAx : ∀ x a', OwnFrom B (fun (_ : Unit) W => Ax x a' W))
    (hassign : ∀ m pre x W (K : Act → World → Prop), W1.heap.size ≤ m → m ≤ W.heap.size → I m pre W → (∀ a' W', Stays B m W W' → Keeps D W W' → I m pre W' → Ax x a' W' → K a' W') →
      assign.wpIn (Fence.wide.inRound l) 3 P (Exit.then K (fun _ _ _ => False)) { tmps := (ps.zip (encs x)).foldl (fun t (p, v) => t.setIfInBounds p v) tm, defers := [] } W)
    (hbody : ∀ m pre x a' W, W1.heap.size ≤ m → m ≤ W.heap.size → (∃ r, W.heap[l]? = some (.loop r)) → I m pre W → Ax x a' W → Part S (pre ++ [x]) →
      body.wpIn (Fence.wide.inRound l) 3 P (roundP B m D I Ix (pre ++ [x]) W) a' W) :
    Calls P gf (#[.func (.yield l) #[] #[]] ++ lb) W1 (fun e W2 => (∃ v, e = .returned v) ∧ ∃ jump W3, (Instr.endLoop l).run P W2 = .ok jump W3 ∧
      ((jump = none ∧ ∃ m xs, S xs ∧ I m xs W3) ∨ (∃ c m pre, jump = some c ∧ Part S pre ∧ Ix c m pre W3))) := by
  have hlt1 : l < W1.heap.size := (Array.getElem?_eq_some_iff.1 hl).1
  obtain ⟨rec, hrec⟩ : ∃ rec : LoopState → Option Code → Loop, rec = fun st pe => { state := st, pending := pe, fn, tmps := tm, params := ps, assign, body, defers := d } := ⟨_, rfl⟩
  have hl1 : W1.heap[l]? = some (.loop (rec .ready none)) := by rw [hrec]; exact hl
  refine (hseq l (fun m pre W => I m pre W ∧ W.heap[l]? = some (.loop (rec .ready none)))
    (fun m pre W => ∃ c, Ix c m pre W ∧ W.heap[l]? = some (.loop (rec .done (some c)))) W1 hb
    (fun m s X Y hs ht => ⟨hI m s X Y hs.1 (ht.mono (by omega)), ht.same l _ hs.2 (.inl hlt1)⟩)
    (fun m s X Y hs ht => by obtain ⟨c, hc, hx⟩ := hs; exact ⟨c, hIx c m s X Y hc (ht.mono (by omega)), ht.same l _ hx (.inl hlt1)⟩)
    ?_ (fun m => ⟨h0 m, hl1⟩)).mono ?_
  · rintro m pre x W hm hm2 ⟨hi, hlw⟩ hpart
    have hy := run_yield (P := P) (args := encs x) hlw (by rw [hrec]; exact hps x)
    rw [hrec] at hy
    refine ⟨fn, _, assign, body, hy, roundIn_of_wpIn trivial (hassign m pre x W _ hm hm2 hi ?_)⟩
    intro a' Wa hst hbe hia hax
    have hla := hst.record hBl hlw
    have hlta : l < Wa.heap.size := (Array.getElem?_eq_some_iff.1 hla).1
    obtain ⟨Wb, hWb⟩ : ∃ Wb, Wa.putObj l (.loop { rec .ready none with state := .busy }) = Wb := ⟨_, rfl⟩
    refine ⟨Wb, by rw [← hWb]; exact run_beginRound hla (by rw [hrec]), ?_⟩
    have hlb : Wb.heap[l]? = some (.loop { rec .ready none with state := .busy }) := by rw [← hWb]; exact World.putObj_heap_same hlta
    have hib : I m pre Wb := by rw [← hWb]; exact (hI m).putObj _ hia hBl hla rfl
    have haxb : Ax x a' Wb := by rw [← hWb]; exact (hAx x a').putObj (s := ()) _ hax hBl hla rfl
    have hsb : Stays W1.heap.size m W Wb := by rw [← hWb]; exact (hst.mono (by omega)).trans (.turn hlt1)
    have hDl : ¬ D l := fun h => Nat.lt_irrefl _ (hn l h)
    have hbb : Keeps D W Wb := by rw [← hWb]; exact hbe.putObj hDl _
    refine wpIn_mono (hbody m pre x a' Wb hm (Nat.le_trans hm2 hsb.size) ⟨_, hlb⟩ hib haxb hpart) ?_
    have fin : ∀ (jump : Option Code) (W3 : World), Stays B m Wb W3 → ∃ W4, W4 = W3.putObj l (.loop (rec (if jump.isNone then .ready else .done) jump)) ∧
        (Instr.endRound l jump).run P W3 = .ok (.bool jump.isNone) W4 ∧ W4.heap[l]? = some (.loop (rec (if jump.isNone then .ready else .done) jump)) ∧
        W3.heap[l]? = some (.loop { rec .ready none with state := .busy }) ∧ Stays W1.heap.size m W W4 := fun jump W3 hs3 => by
      have hl3 := hs3.record hBl hlb
      have hr := run_endRound (P := P) jump hl3
      rw [hrec] at hr ⊢
      refine ⟨_, rfl, hr, World.putObj_heap_same (Array.getElem?_eq_some_iff.1 hl3).1, by rw [hrec] at hl3; exact hl3, ?_⟩
      exact (hsb.trans (hs3.mono (by omega))).trans (.turn hlt1)
    rintro e a3 W3 hp
    cases e with
    | normal =>
      obtain ⟨hs3, hb3, hi3⟩ := hp
      obtain ⟨W4, e4, hr, hl4, hl3, hs4⟩ := fin none W3 hs3
      refine ⟨_, W4, hr, hs4, .inl ⟨rfl, ⟨?_, hl4⟩, ?_⟩⟩
      · rw [e4]; exact (hI m).putObj _ hi3 hBl hl3 rfl
      · rw [e4]; exact (hbb.trans hb3).putObj hDl _
    | ret =>
      obtain ⟨hs3, hi3⟩ := hp
      obtain ⟨W4, e4, hr, hl4, hl3, hs4⟩ := fin (some .ret) W3 hs3
      exact ⟨_, W4, hr, hs4, .inr ⟨rfl, .ret, by rw [e4]; exact (hIx _ m).putObj _ hi3 hBl hl3 rfl, hl4⟩⟩
    | exit id =>
      obtain ⟨hs3, hi3⟩ := hp
      obtain ⟨W4, e4, hr, hl4, hl3, hs4⟩ := fin (some (.exit id)) W3 hs3
      exact ⟨_, W4, hr, hs4, .inr ⟨rfl, .exit id, by rw [e4]; exact (hIx _ m).putObj _ hi3 hBl hl3 rfl, hl4⟩⟩
    | goto t =>
      obtain ⟨hs3, hi3⟩ := hp
      obtain ⟨W4, e4, hr, hl4, hl3, hs4⟩ := fin (some (.goto t)) W3 hs3
      exact ⟨_, W4, hr, hs4, .inr ⟨rfl, .goto t, by rw [e4]; exact (hIx _ m).putObj _ hi3 hBl hl3 rfl, hl4⟩⟩
    | panic ch => exact hp.elim
    | outgrown => exact hp.elim
  · rintro e W2 ⟨hv, (⟨m, xs, hS, hi, hlw⟩ | ⟨m, pre, hp, c, hi, hlw⟩)⟩
    · have hr := run_endLoop (P := P) hlw (by rw [hrec]; simp)
      refine ⟨hv, _, _, hr, .inl ⟨by rw [hrec], m, xs, hS, (hI m).putObj _ hi hBl hlw rfl⟩⟩
    · have hr := run_endLoop (P := P) hlw (by rw [hrec]; simp)
      refine ⟨hv, _, _, hr, .inr ⟨c, m, pre, by rw [hrec], hp, (hIx c m).putObj _ hi hBl hlw rfl⟩⟩

/-- THE STATEMENT, OUTERMOST. D is the block of the rounds' deferred calls: at the function's return it is taken once more. -/
theorem rangeM_out {gf : Nat} {D : Nat → Prop} {g : Operand} {ps : Array Tmp} {assign body : Code} {Q : Exit → Act → World → Prop} {a : Act} {w w0 : World} {lb : Array Value} {encs : α → Array Value} {S : List α → Prop}
    (hg : a.eval g = .func (.func gf) #[] lb) (eg : ∀ args w, (callFunc gf args).run P w = .ok (.enter gf args) w)
    (hseq : GivesM P gf lb encs D S w0) (hb : Below w0.heap.size w0 w) (hn : ∀ k, D k → k < w.heap.size) (hps : ∀ x, (encs x).size = ps.size)
    (I : Nat → List α → World → Prop) (Ix : Code → Nat → List α → World → Prop) (hI : ∀ m, Abides w.heap.size m (I m)) (hIx : ∀ c m, Abides w.heap.size m (Ix c m)) (h0 : ∀ m, I m [] w)
    (Ax : α → Act → World → Prop) (hAx : ∀ x a', OwnFrom w.heap.size (fun (_ : Unit) W => Ax x a' W))
    (hassign : ∀ (l m : Nat) pre x W (K : Act → World → Prop), w.heap.size ≤ m → m ≤ W.heap.size → I m pre W → (∀ a' W', Stays w.heap.size m W W' → Keeps D W W' → I m pre W' → Ax x a' W' → K a' W') →
      assign.wpIn (Fence.wide.inRound l) 3 P (Exit.then K (fun _ _ _ => False)) { tmps := (ps.zip (encs x)).foldl (fun t (p, v) => t.setIfInBounds p v) a.tmps, defers := [] } W)
    (hbody : ∀ (l m : Nat) pre x a' W, w.heap.size ≤ m → m ≤ W.heap.size → w.heap.size ≤ l → (∃ r, W.heap[l]? = some (.loop r)) → I m pre W → Ax x a' W → Part S (pre ++ [x]) →
      body.wpIn (Fence.wide.inRound l) 3 P (roundP w.heap.size m D I Ix (pre ++ [x]) W) a' W)
    (hdone : ∀ (E m : Nat) xs W, w.heap.size ≤ E → S xs → I m xs W → W.heap[E]? = some (.deferred (some [])) → Q .normal { a with defers := { target := .collected E, args := #[] } :: a.defers } W)
    (hstop : ∀ (E : Nat) (c : Code) (m : Nat) pre W, w.heap.size ≤ E → Part S pre → Ix c m pre W → W.heap[E]? = some (.deferred (some [])) →
      c.wpIn Fence.wide 3 P Q { a with defers := { target := .collected E, args := #[] } :: a.defers } W) :
    (Code.rangeFunc g ps assign body).wpIn Fence.wide 3 P Q a w := by
  refine wpIn_rangeFunc ?_
  intro fn hfn
  obtain ⟨W1, hW1⟩ : ∃ W1, (w.alloc (.deferred (some []))).alloc (.loop { state := .ready, pending := none, fn, tmps := a.tmps, params := ps, assign, body, defers := w.heap.size }) = W1 := ⟨_, rfl⟩
  have hL1 : W1.heap[w.heap.size + 1]? = some (.loop { state := .ready, pending := none, fn, tmps := a.tmps, params := ps, assign, body, defers := w.heap.size }) := by
    rw [← hW1]; have := World.alloc_heap_new (w.alloc (.deferred (some []))) (.loop { state := .ready, pending := none, fn, tmps := a.tmps, params := ps, assign, body, defers := w.heap.size }); rwa [World.size_alloc] at this
  have hK1 : W1.heap[w.heap.size]? = some (.deferred (some [])) := by
    rw [← hW1]; exact (Below.heap_alloc _ _ _ (by simp)).trans (World.alloc_heap_new w _)
  have hbw : Below w.heap.size w W1 := by rw [← hW1]; exact ((Below.refl _ w).alloc (Nat.le_refl _) _).alloc (by simp) _
  refine ⟨w.heap.size + 1, [{ target := .collected w.heap.size, args := #[] }], W1, { target := .fn (.func gf) lb, args := #[.func (.yield (w.heap.size + 1)) #[] #[]] }, W1, gf,
    #[.func (.yield (w.heap.size + 1)) #[] #[]] ++ lb, W1, ?_, ?_, fun _ _ => trivial, ?_, fun h => (by simp [Fence.wide] at h), ?_⟩
  · rw [← hW1]; exact run_enterLoop_outer _ _ _ _ _
  · simp only [resolve, hg]
    simp [go_sem]
  · simp [invoke, go_sem, eg]
  · refine callsIn_wide.2 ((coreM (B := w.heap.size + 1) hseq (hb.trans (hbw.mono hb.size)) hL1 (Nat.le_refl _) (fun k hk => Nat.lt_succ_of_lt (hn k hk)) hps
      (fun m pre W => I m pre W ∧ W.heap[w.heap.size]? = some (.deferred (some []))) (fun c m pre W => Ix c m pre W ∧ W.heap[w.heap.size]? = some (.deferred (some [])))
      (fun m s X Y hs ht => ⟨hI m s X Y hs.1 (ht.mono (by omega)), ht.same _ _ hs.2 (.inl (by omega))⟩)
      (fun c m s X Y hs ht => ⟨hIx c m s X Y hs.1 (ht.mono (by omega)), ht.same _ _ hs.2 (.inl (by omega))⟩)
      (fun m => ⟨hI m _ _ _ (h0 m) (.of_below hbw), hK1⟩) Ax (fun x a' s X Y row hs hg' hr => hAx x a' s X Y row hs hg' (fun r e => ⟨by have := (hr r e).1; omega, (hr r e).2⟩))
      (fun m pre x W K hm hm2 hi hK => hassign _ m pre x W K (Nat.le_trans hbw.size hm) hm2 hi.1 (fun a' W' hs hbe hi' hax => hK a' W' (hs.mono (by omega)) hbe ⟨hi', hs.same _ _ (Nat.le_refl _) hi.2 (.inr rfl)⟩ hax))
      (fun m pre x a' W hm hm2 hr hi hax hp => wpIn_mono (hbody _ m pre x a' W (Nat.le_trans hbw.size hm) hm2 (by omega) hr hi.1 hax hp) ?_)).mono ?_)
    · intro e a3 W3 h3
      have hD : ∀ {W' : World}, Stays w.heap.size m W W' → W'.heap[w.heap.size]? = some (.deferred (some [])) := fun hs => hs.same _ _ (Nat.le_refl _) hi.2 (.inr rfl)
      cases e with
      | normal => exact ⟨h3.1.mono (by omega), h3.2.1, h3.2.2, hD h3.1⟩
      | ret => exact ⟨h3.1.mono (by omega), h3.2, hD h3.1⟩
      | exit id => exact ⟨h3.1.mono (by omega), h3.2, hD h3.1⟩
      | goto t => exact ⟨h3.1.mono (by omega), h3.2, hD h3.1⟩
      | panic ch => exact h3
      | outgrown => exact h3
    · rintro e W2 ⟨⟨v, rfl⟩, jump, W3, hr, (⟨rfl, m, xs, hS, hi, hD⟩ | ⟨c, m, pre, rfl, hp, hi, hD⟩)⟩
      · exact ⟨none, W3, hr, hdone _ m xs W3 (Nat.le_refl _) hS hi hD⟩
      · exact ⟨some c, W3, hr, hstop _ c m pre W3 (Nat.le_refl _) hp hi hD⟩

/-- THE STATEMENT, OUTERMOST, WHERE A ROUND LEAVES BY 'break' AT MOST. -/
theorem rangeM_break {id gf : Nat} {D : Nat → Prop} {g : Operand} {ps : Array Tmp} {assign body : Code} {Q : Exit → Act → World → Prop} {a : Act} {w w0 : World} {lb : Array Value} {encs : α → Array Value} {S : List α → Prop}
    (hg : a.eval g = .func (.func gf) #[] lb) (eg : ∀ args w, (callFunc gf args).run P w = .ok (.enter gf args) w)
    (hseq : GivesM P gf lb encs D S w0) (hb : Below w0.heap.size w0 w) (hn : ∀ k, D k → k < w.heap.size) (hps : ∀ x, (encs x).size = ps.size)
    (I Ix : Nat → List α → World → Prop) (A : World → Prop) (hI : ∀ m, Abides w.heap.size m (I m)) (hIx : ∀ m, Abides w.heap.size m (Ix m)) (h0 : ∀ m, I m [] w)
    (Ax : α → Act → World → Prop) (hAx : ∀ x a', OwnFrom w.heap.size (fun (_ : Unit) W => Ax x a' W))
    (hIA : ∀ m xs W, S xs → I m xs W → A W) (hIxA : ∀ m pre W, Part S pre → Ix m pre W → A W)
    (hassign : ∀ (l m : Nat) pre x W (K : Act → World → Prop), w.heap.size ≤ m → m ≤ W.heap.size → I m pre W → (∀ a' W', Stays w.heap.size m W W' → Keeps D W W' → I m pre W' → Ax x a' W' → K a' W') →
      assign.wpIn (Fence.wide.inRound l) 3 P (Exit.then K (fun _ _ _ => False)) { tmps := (ps.zip (encs x)).foldl (fun t (p, v) => t.setIfInBounds p v) a.tmps, defers := [] } W)
    (hbody : ∀ (l m : Nat) pre x a' W, w.heap.size ≤ m → m ≤ W.heap.size → w.heap.size ≤ l → (∃ r, W.heap[l]? = some (.loop r)) → I m pre W → Ax x a' W → Part S (pre ++ [x]) →
      body.wpIn (Fence.wide.inRound l) 3 P (roundP w.heap.size m D I (fun c m pre W => c = .exit id ∧ Ix m pre W) (pre ++ [x]) W) a' W)
    (hafter : ∀ (E : Nat) W, w.heap.size ≤ E → A W → W.heap[E]? = some (.deferred (some [])) → Q .normal { a with defers := { target := .collected E, args := #[] } :: a.defers } W) :
    (Code.rangeFunc g ps assign body).wpIn Fence.wide 3 P (Exit.inBlock id Q) a w :=
  rangeM_out hg eg hseq hb hn hps I (fun c m pre W => c = .exit id ∧ Ix m pre W) hI (fun c m => (Abides.pure (fun _ => c = .exit id)).and (hIx m)) h0 Ax hAx hassign hbody
    (fun E m xs W hE hS hi hK => hafter E W hE (hIA m xs W hS hi) hK)
    (fun E c m pre W hE hp hi hK => by
      obtain ⟨rfl, hi⟩ := hi
      refine wpIn_exit ?_
      have := hafter E W hE (hIxA m pre W hp hi) hK
      simpa [Exit.inBlock] using this)

/-- THE STATEMENT IN A ROUND OF LOOP l₀. -/
theorem rangeM_in {l₀ gf : Nat} {D : Nat → Prop} {r₀ : Loop} {g : Operand} {ps : Array Tmp} {assign body : Code} {Q : Exit → Act → World → Prop} {a : Act} {w w0 : World} {lb : Array Value} {encs : α → Array Value} {S : List α → Prop}
    (hl₀ : w.heap[l₀]? = some (.loop r₀)) (hg : a.eval g = .func (.func gf) #[] lb) (eg : ∀ args w, (callFunc gf args).run P w = .ok (.enter gf args) w)
    (hseq : GivesM P gf lb encs D S w0) (hb : Below w0.heap.size w0 w) (hn : ∀ k, D k → k < w.heap.size) (hps : ∀ x, (encs x).size = ps.size)
    (I : Nat → List α → World → Prop) (Ix : Code → Nat → List α → World → Prop) (hI : ∀ m, Abides w.heap.size m (I m)) (hIx : ∀ c m, Abides w.heap.size m (Ix c m)) (h0 : ∀ m, I m [] w)
    (Ax : α → Act → World → Prop) (hAx : ∀ x a', OwnFrom w.heap.size (fun (_ : Unit) W => Ax x a' W))
    (hassign : ∀ (l m : Nat) pre x W (K : Act → World → Prop), w.heap.size ≤ m → m ≤ W.heap.size → I m pre W → (∀ a' W', Stays w.heap.size m W W' → Keeps D W W' → I m pre W' → Ax x a' W' → K a' W') →
      assign.wpIn (Fence.wide.inRound l) 3 P (Exit.then K (fun _ _ _ => False)) { tmps := (ps.zip (encs x)).foldl (fun t (p, v) => t.setIfInBounds p v) a.tmps, defers := [] } W)
    (hbody : ∀ (l m : Nat) pre x a' W, w.heap.size ≤ m → m ≤ W.heap.size → w.heap.size ≤ l → (∃ r, W.heap[l]? = some (.loop r)) → I m pre W → Ax x a' W → Part S (pre ++ [x]) →
      body.wpIn (Fence.wide.inRound l) 3 P (roundP w.heap.size m D I Ix (pre ++ [x]) W) a' W)
    (hdone : ∀ (m : Nat) xs W, S xs → I m xs W → Q .normal a W)
    (hstop : ∀ (c : Code) (m : Nat) pre W, Part S pre → Ix c m pre W → c.wpIn (Fence.wide.inRound l₀) 3 P Q a W) :
    (Code.rangeFunc g ps assign body).wpIn (Fence.wide.inRound l₀) 3 P Q a w := by
  refine wpIn_rangeFunc ?_
  intro fn hfn
  obtain ⟨W1, hW1⟩ : ∃ W1, w.alloc (.loop { state := .ready, pending := none, fn, tmps := a.tmps, params := ps, assign, body, defers := r₀.defers }) = W1 := ⟨_, rfl⟩
  have hL1 : W1.heap[w.heap.size]? = some (.loop { state := .ready, pending := none, fn, tmps := a.tmps, params := ps, assign, body, defers := r₀.defers }) := by
    rw [← hW1]; exact World.alloc_heap_new w _
  have hbw : Below w.heap.size w W1 := by rw [← hW1]; exact (Below.refl _ w).alloc (Nat.le_refl _) _
  refine ⟨w.heap.size, [], W1, { target := .fn (.func gf) lb, args := #[.func (.yield w.heap.size) #[] #[]] }, W1, gf,
    #[.func (.yield w.heap.size) #[] #[]] ++ lb, W1, ?_, ?_, fun _ _ => trivial, ?_, fun h => (by simp [Fence.wide] at h), ?_⟩
  · rw [← hW1]; exact run_enterLoop_inner hl₀ _ _ _ _ _
  · simp only [resolve, hg]
    simp [go_sem]
  · simp [invoke, go_sem, eg]
  · refine CallsIn.inRound l₀ (callsIn_wide.2 ((coreM (B := w.heap.size) hseq (hb.trans (hbw.mono hb.size)) hL1 (Nat.le_refl _) hn hps I Ix hI hIx
      (fun m => hI m _ _ _ (h0 m) (.of_below hbw)) Ax hAx (fun m pre x W K hm hm2 hi hK => hassign _ m pre x W K (Nat.le_trans hbw.size hm) hm2 hi hK)
      (fun m pre x a' W hm hm2 hr hi hax hp => hbody _ m pre x a' W (Nat.le_trans hbw.size hm) hm2 (Nat.le_refl _) hr hi hax hp)).mono ?_))
    rintro e W2 ⟨⟨v, rfl⟩, jump, W3, hr, (⟨rfl, m, xs, hS, hi⟩ | ⟨c, m, pre, rfl, hp, hi⟩)⟩
    · exact ⟨none, W3, hr, hdone m xs W3 hS hi⟩
    · exact ⟨some c, W3, hr, hstop c m pre W3 hp hi⟩
end core


section
variable {α γ : Type} {P : Program} {n : Nat} {D : List Deferred} {M : Slots}
theorem RowL.own {B g e : Nat} {xs : List Value} : OwnFrom B (fun (_ : Unit) W => RowL W g e xs) := fun _ W W' row h hg hr => by
  have hlt := h.lt
  have h' : W.heap[g]? = some (.cells xs.toArray e (0, 0)) := h
  refine h.same (hg.block g hlt ?_)
  have key : row ≠ some g := fun e => by
    obtain ⟨_, o, ho, hc⟩ := hr g e
    rw [h'] at ho
    cases ho
    cases hc
  first
    | exact key
    | exact fun e => key e.symm
theorem RowL.abides {β : Type} {B m g e : Nat} (hb : g < B) (f : β → List Value) : Abides B m (fun s W => RowL W g e (f s)) := fun s W W' hs ht => ht.same g _ hs (.inl hb)
/-- A range over a function, outermost, of which a round may break at most. -/
theorem CC.rangeM {id gf : Nat} {Dk : Nat → Prop} {g : Operand} {ps : Array Tmp} {assign body : Code} {Q : Exit → Act → World → Prop} {w w0 : World} {lb : List Value} {encs : α → List Value} {S : List α → Prop}
    (hg : evM M g = some (.func (.func gf) #[] lb.toArray)) (eg : entB P gf = true) (hseq : GivesM P gf lb.toArray (fun x => (encs x).toArray) Dk S w0) (hb : Below w0.heap.size w0 w) (hn : ∀ k, Dk k → k < w.heap.size) (hps : ∀ x, (encs x).length = ps.size) (hpn : (ps.toList.all fun p => Nat.blt p n) = true)
    (I Ix : Nat → List α → World → Prop) (A : World → Prop) (hI : ∀ m, Abides w.heap.size m (I m)) (hIx : ∀ m, Abides w.heap.size m (Ix m)) (h0 : ∀ m, I m [] w) (hIA : ∀ m xs W, S xs → I m xs W → A W) (hIxA : ∀ m pre W, Part S pre → Ix m pre W → A W)
    (Mx : α → γ → Slots) (Ax : α → γ → World → Prop) (hAx : ∀ x c, OwnFrom w.heap.size (fun (_ : Unit) W => Ax x c W))
    (hassign : ∀ (l m : Nat) pre x W (K : Act → World → Prop), w.heap.size ≤ m → m ≤ W.heap.size → I m pre W → (∀ a' W' c, Stays w.heap.size m W W' → Keeps Dk W W' → I m pre W' → Fr n [] (Mx x c) a' → Ax x c W' → K a' W') → CC (some l) P (Exit.then K (fun _ _ _ => False)) n [] (psM M ps.toList (encs x)) assign W)
    (hbody : ∀ (l m : Nat) pre x c W, w.heap.size ≤ m → m ≤ W.heap.size → w.heap.size ≤ l → (∃ r, W.heap[l]? = some (.loop r)) → I m pre W → Ax x c W → Part S (pre ++ [x]) → CC (some l) P (roundP w.heap.size m Dk I (fun c m pre W => c = .exit id ∧ Ix m pre W) (pre ++ [x]) W) n [] (Mx x c) body W)
    (hafter : ∀ (E : Nat) W, w.heap.size ≤ E → A W → W.heap[E]? = some (.deferred (some [])) → EE Q n (mark E :: D) M .normal W) :
    CC none P (Exit.inBlock id Q) n D M (.rangeFunc g ps assign body) w := CC.mk fun a F => by
  refine rangeM_break (gf := gf) (lb := lb.toArray) (F.ev hg) (ent_of eg) hseq hb hn (fun x => by simpa using hps x) I Ix A hI hIx h0 (fun x a' W => ∃ c, Fr n [] (Mx x c) a' ∧ Ax x c W) (fun x a' _ W W' row hs hg hr => by
    obtain ⟨c, hF, hc⟩ := hs
    exact ⟨c, hF, hAx x c () W W' row hc hg hr⟩) hIA hIxA ?_ ?_ ?_
  · intro l m pre x W K hm hm2 hi hK
    refine (hassign l m pre x W K hm hm2 hi fun a' W' c h1 h2 h3 h4 h5 => hK a' W' h1 h2 h3 ⟨c, h4, h5⟩).h _ ?_
    have F0 : Fr n [] M ⟨a.tmps, []⟩ := ⟨F.size, rfl, F.get⟩
    have := psM_fr ps.toList (encs x) M a.tmps [] F0 hpn
    have e : (ps.zip (encs x).toArray).foldl (fun t (p, v) => t.setIfInBounds p v) a.tmps = (ps.toList.zip (encs x)).foldl (fun t (p, v) => t.setIfInBounds p v) a.tmps := by
      obtain ⟨l⟩ := ps
      rw [← Array.foldl_toList]
      simp
    rw [e]
    exact this
  · intro l m pre x a' W hm hm2 hl hr hi hax hp
    obtain ⟨c, hF, hc⟩ := hax
    exact (hbody l m pre x c W hm hm2 hl hr hi hc hp).h a' hF
  · intro E W hE hA hd
    exact (hafter E W hE hA hd).h _ ⟨F.size, by rw [F.defers]; rfl, F.get⟩
/-- A scope without a goto. -/
theorem CC.straight {Q : Exit → Act → World → Prop} {c : Code} {w : World} (h : CC none P (Exit.noGoto Q) n D M c w) : CC none P Q n D M (.scope c) w := CC.mk fun a F => (wpIn_wide (n := 3)).2 (wp_scope_straight ((wpIn_wide (n := 3)).1 (h.h a F)))
theorem EE.noN {Q : Exit → Act → World → Prop} {w : World} (h : EE Q n D M .normal w) : EE (Exit.noGoto Q) n D M .normal w := EE.mk fun a F => h.h a F
theorem EE.noR {Q : Exit → Act → World → Prop} {w : World} (h : EE Q n D M .ret w) : EE (Exit.noGoto Q) n D M .ret w := EE.mk fun a F => h.h a F
theorem EE.noX {Q : Exit → Act → World → Prop} {w : World} {i : Nat} (h : EE Q n D M (.exit i) w) : EE (Exit.noGoto Q) n D M (.exit i) w := EE.mk fun a F => h.h a F
end
end Go.Proofs.Ytajfffoaebjnlaa
