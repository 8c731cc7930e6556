/- What the statements' walks use: SeqP, TClear, TSet, TFld, Up, Auto, GrowR, FreeZ, Grow, Sl, TWalk, OwnZ, CellE, EqS, Arr, EqA, Zeros, Mesh, TNew, Map, MapZ, Gw. -/
import Derived.Deep.RegionLawGrows
import Derived.Deep.RegionWith
import Derived.Tactics
import Derived.Tactics2
import Derived.ChangeKeysEq
import Derived.Laws.StructEq
import Derived.Lib.AppendZerosOnto
import Derived.Deep.Upon
import Derived.Maps.RangeRun
import Derived.Test.YtloflmkolnediaaMha
/- Ranges over functions whose rounds may panic. -/
namespace Go.Proofs.Ytloflmkolnediaa
set_option linter.unusedVariables false
set_option linter.unusedSimpArgs false
open Go.RowKit Go.Shelf
/-- Arrives; where by a panic, at no call of a row of a library. -/
def ArrQ (I : Machine → Prop) (P : Program) (m : Machine) (b : Frame) (k : List Item) (cs : List Frame) (e : Exit) (a : Act) (w : World) : Prop :=
  ArrivesIn I P m b k cs e a w ∧ ∀ ch, e = .panic ch → ∃ x todo, (∀ p q r s, x ≠ Item.call p q r s) ∧ StepsIn I P m (lone { b.atR a (x :: todo) with mode := .panicking ch } cs w)
section
variable {I : Machine → Prop} {P : Program} {m m₁ : Machine} {b : Frame} {k : List Item} {cs : List Frame} {e : Exit} {a : Act} {w : World}
theorem ArrQ.of_steps (h : StepsIn I P m m₁) (h' : ArrQ I P m₁ b k cs e a w) : ArrQ I P m b k cs e a w := ⟨.of_steps h h'.1, fun ch hc => by
  obtain ⟨x, todo, hx, hs⟩ := h'.2 ch hc
  exact ⟨x, todo, hx, h.trans hs⟩⟩
theorem ArrQ.calm (h : ArrivesIn I P m b k cs e a w) (hc : ∀ ch, e ≠ .panic ch) : ArrQ I P m b k cs e a w := ⟨h, fun ch h => absurd h (hc ch)⟩
theorem ArrQ.pan {x : Item} {todo : List Item} {ch : List PanicEntry} (hx : ∀ p q r s, x ≠ Item.call p q r s) (h : StepsIn I P m (lone { b.atR a (x :: todo) with mode := .panicking ch } cs w)) : ArrQ I P m b k cs (.panic ch) a w :=
  ⟨⟨_, h⟩, fun ch' e => by cases e; exact ⟨x, todo, hx, h⟩⟩
theorem ArrQ.leave {k' : List Item} {ch : List PanicEntry} (h : ArrQ I P m b k cs (.panic ch) a w) : ArrQ I P m b k' cs (.panic ch) a w := by
  obtain ⟨x, todo, hx, hs⟩ := h.2 ch rfl
  exact .pan hx hs
end
/-- 'wpIn' of code that may panic in a round. -/
def _root_.Go.Code.wpQ (F : Fence) (n : Nat) (P : Program) (c : Code) (Q : Exit → Act → World → Prop) (a : Act) (w : World) : Prop :=
  ∀ (b : Frame) (k : List Item) (cs : List Frame), b.roundOf = F.round → F.fn b.fn → F.room (cs.length + 1 + n) →
    ∃ e a' w', Q e a' w' ∧ ArrQ (Machine.fenced P F) P (lone (b.atR a (.code c :: k)) cs w) b k cs e a' w'
theorem wp_opsQ {F : Fence} {n : Nat} {P : Program} {ops : Array Oper} {Q : Exit → Act → World → Prop} (l : List Nat) :
    ∀ (a : Act) (w : World), wpOpsIn F n P ops Q l a w → ∀ (b : Frame) (k : List Item) (cs : List Frame), b.roundOf = F.round → F.fn b.fn → F.room (cs.length + 1 + n) →
      ∃ e a' w', Q e a' w' ∧ ArrQ (Machine.fenced P F) P (lone (b.atR a (.inRegion ops l :: k)) cs w) b k cs e a' w' := by
  induction l with
  | nil => exact fun a w h b k cs _ hb hr => ⟨.normal, a, w, h, .calm (.one (fenced_calm hb hr rfl) stepR_region_end) (fun _ h => by cases h)⟩
  | cons i rest ih =>
    intro a w h b k cs hro hb hr
    simp only [wpOpsIn] at h
    cases ho : ops[i]? with
    | none =>
      simp only [ho] at h
      obtain ⟨e, a', w', hq, harr⟩ := ih a w h b k cs hro hb hr
      have hs := stepR_op_skip (P := P) (b := b) (a := a) (k := k) (cs := cs) (w := w) (ops := ops) (i := i) (rest := rest) (by simp [ho])
      simp only [ho, Option.bind_none, Act.put] at hs
      exact ⟨e, a', w', hq, .of_steps (.one (fenced_noOper hb hr ho) hs) harr⟩
    | some o =>
      simp only [ho] at h
      by_cases hw : Region.wanted o (yielded ops a.tmps) = true
      · simp only [hw, if_true, Oper.wpIn] at h
        obtain ⟨habout, h⟩ := h
        have h0 : (lone (b.atR a (.inRegion ops (i :: rest) :: k)) cs w).fenced P F := fenced_oper hb hr ho habout
        simp only [Oper.uponIn] at h
        have hg := stepGR_op (P := P) (b := b) (k := k) (cs := cs) (w := w) (rest := rest) ho hw
        rw [hro] at hg
        have hfin : ∀ v, (b.atR a (.inRegion ops (i :: rest) :: k)).finish v = b.atR (a.put o.dst v) (.inRegion ops rest :: k) := by
          intro v; rw [Frame.finish_atR, ho]; rfl
        split at h
        · rename_i v w' hr'
          obtain ⟨e, a', w'', hq, harr⟩ := ih _ _ h b k cs hro hb hr
          refine ⟨e, a', w'', hq, .of_steps (.one h0 (step_lone_go ?_)) harr⟩
          rw [hg, ← hfin]; simp [stepG.apply, hr']
        · rename_i w' hr'
          obtain ⟨e, a', w'', hq, harr⟩ := ih _ _ h b k cs hro hb hr
          refine ⟨e, a', w'', hq, .of_steps (.one h0 (step_lone_go ?_)) harr⟩
          rw [hg, ← hfin]; simp [stepG.apply, hr']
        · rename_i d w' hr'
          obtain ⟨e, a', w'', hq, harr⟩ := ih _ _ h b k cs hro hb hr
          refine ⟨e, a', w'', hq, .of_steps (.one h0 (step_lone_go ?_)) harr⟩
          have : ({ b.atR a (.inRegion ops (i :: rest) :: k) with defers := d :: a.defers } : Frame).finish undef =
              b.atR ({ a with defers := d :: a.defers }.put o.dst undef) (.inRegion ops rest :: k) := by
            have := Frame.finish_atR b { a with defers := d :: a.defers } ops i rest k undef
            rw [ho] at this; exact this
          rw [hg]; simp only [stepG.apply, Sem.runT_eq, hr', GStep.bare_after]
          exact congrArg (fun fr => GStep.go { frame := fr, callers := cs, status := .running, dying := none } w') this
        · rename_i f args w' hr'
          obtain ⟨hn, hF, h⟩ := h
          have hroom : F.room ((b.atR a (.inRegion ops (i :: rest) :: k) :: cs).length + 1 + (n - 1)) := Fence.room_enter hr hn
          obtain ⟨e, w'', fr, hR, hsteps, hfn, hleave⟩ := h (b.atR a (.inRegion ops (i :: rest) :: k) :: cs) hroom
          have henter : step P (lone (b.atR a (.inRegion ops (i :: rest) :: k)) cs w) =
              .next (lone (Frame.enter P f args .normal) (b.atR a (.inRegion ops (i :: rest) :: k) :: cs) w') :=
            step_lone_go (by rw [hg]; simp [stepG.apply, hr', Frame.atR])
          cases e with
          | returned v =>
            have hl : (lone fr (b.atR a (.inRegion ops (i :: rest) :: k) :: cs) w'').fenced P F := fenced_leaving (hfn ▸ hF) hroom hleave
            obtain ⟨e, a', w₃, hq, harr⟩ := ih _ _ hR b k cs hro hb hr
            refine ⟨e, a', w₃, hq, .of_steps (.head h0 henter (StepsIn.trans hsteps (.one hl ?_))) harr⟩
            rw [← hfin]; exact step_leave_returned hleave
          | panicked chain =>
            have hl : (lone fr (b.atR a (.inRegion ops (i :: rest) :: k) :: cs) w'').fenced P F := fenced_leaving (hfn ▸ hF) hroom hleave
            refine ⟨.panic chain, a, w'', hR, .pan (x := .inRegion ops (i :: rest)) (todo := k) (fun _ _ _ _ h => by cases h) (.head h0 henter (StepsIn.trans hsteps (.one hl ?_)))⟩
            rw [← Frame.raise_atR]; exact step_leave_panicked hleave
          | outgrown =>
            obtain ⟨a₀, w₀, hq⟩ := hR
            exact ⟨.outgrown, a₀, w₀, hq, .calm (.inr (Outgrown.of_steps (.one henter) hsteps)) (fun _ h => by cases h)⟩
        · rename_i row args w' hr'
          obtain ⟨hn, h⟩ := h
          obtain ⟨v, w'', hR, hsteps⟩ := h (b.atR a (.inRegion ops (i :: rest) :: k)) cs (Fence.room_enter hr hn)
          have henter : step P (lone (b.atR a (.inRegion ops (i :: rest) :: k)) cs w) =
              .next (lone (Frame.ofRow P row args .normal) (b.atR a (.inRegion ops (i :: rest) :: k) :: cs) w') :=
            step_lone_go (by rw [hg]; simp [stepG.apply, hr', Frame.atR])
          obtain ⟨e, a', w₃, hq, harr⟩ := ih _ _ hR b k cs hro hb hr
          refine ⟨e, a', w₃, hq, .of_steps (.head h0 henter ?_) harr⟩
          rw [← hfin]; exact hsteps
        · rename_i l f tmps assign body w' hr'
          obtain ⟨hn, _, h⟩ := h
          obtain ⟨e, w'', hR, hsteps⟩ := h (b.atR a (.inRegion ops (i :: rest) :: k)) cs (Fence.room_enter hr hn)
          have henter : step P (lone (b.atR a (.inRegion ops (i :: rest) :: k)) cs w) =
              .next (lone (Frame.round l f tmps assign body .normal) (b.atR a (.inRegion ops (i :: rest) :: k) :: cs) w') :=
            step_lone_go (by rw [hg]; simp [stepG.apply, hr', Frame.atR])
          cases e with
          | returned v =>
            obtain ⟨e, a', w₃, hq, harr⟩ := ih _ _ hR b k cs hro hb hr
            refine ⟨e, a', w₃, hq, .of_steps (.head h0 henter ?_) harr⟩
            rw [← hfin]; exact hsteps
          | panicked chain =>
            refine ⟨.panic chain, a, w'', hR, .pan (x := .inRegion ops (i :: rest)) (todo := k) (fun _ _ _ _ h => by cases h) (.head h0 henter ?_)⟩
            rw [← Frame.raise_atR]; exact hsteps
          | outgrown =>
            obtain ⟨a₀, w₀, hq⟩ := hR
            exact ⟨.outgrown, a₀, w₀, hq, .calm (.inr (Outgrown.of_steps (.one henter) hsteps)) (fun _ h => by cases h)⟩
        · rename_i v w' hr'
          refine ⟨_, a, w', h, .pan (x := .inRegion ops (i :: rest)) (todo := k) (fun _ _ _ _ h => by cases h) (.one h0 (step_lone_go ?_))⟩
          rw [hg, ← Frame.raise_atR]; simp [stepG.apply, hr']
        · exact h.elim
      · simp only [hw, if_false, Bool.false_eq_true] at h
        obtain ⟨habout, h⟩ := h
        obtain ⟨e, a', w', hq, harr⟩ := ih _ _ h b k cs hro hb hr
        have hs := stepR_op_skip (P := P) (b := b) (a := a) (k := k) (cs := cs) (w := w) (ops := ops) (i := i) (rest := rest)
          (by simp [ho]; simpa using hw)
        simp only [ho, Option.bind_some] at hs
        exact ⟨e, a', w', hq, .of_steps (.one (fenced_oper hb hr ho habout) hs) harr⟩
section
variable {F : Fence} {n : Nat} {P : Program} {Q : Exit → Act → World → Prop} {a : Act} {w : World}
theorem wpQ_region {id : Nat} {l : List Oper} (h : wpListIn F n P l.toArray Q l a w) : (Code.region id l.toArray false).wpQ F n P Q a w := by
  have h' : wpOpsIn F n P l.toArray Q (List.range l.toArray.size) a w := by
    rw [List.range_eq_range', ← Array.length_toList, wpOpsIn_eq_wpListIn l.toArray.toList 0 (by simp)]
    simpa using h
  intro b k cs hro hb hr
  obtain ⟨e, a', w', q, r⟩ := wp_opsQ _ a w h' b k cs hro hb hr
  exact ⟨e, a', w', q, .of_steps (.one (fenced_calm hb hr rfl) stepR_region) r⟩
theorem wpQ_calm {c : Code} (h : c.wpIn F n P (calmP Q) a w) : c.wpQ F n P Q a w := by
  intro b k cs hro hb hr
  obtain ⟨e, a', w', q, r⟩ := h b k cs hro hb hr
  cases e with
  | panic ch => exact q.elim
  | outgrown => exact q.elim
  | normal => exact ⟨_, a', w', q, .calm r (fun _ h => by cases h)⟩
  | ret => exact ⟨_, a', w', q, .calm r (fun _ h => by cases h)⟩
  | exit i => exact ⟨_, a', w', q, .calm r (fun _ h => by cases h)⟩
  | goto i => exact ⟨_, a', w', q, .calm r (fun _ h => by cases h)⟩
theorem wpQ_seq {x y : Code} (h : x.wpQ F n P (Exit.then (y.wpQ F n P Q) Q) a w) : (Code.seq x y).wpQ F n P Q a w := by
  intro b k cs hro hb hr
  have h0 : (lone (b.atR a (.code (.seq x y) :: k)) cs w).fenced P F := fenced_calm hb hr rfl
  obtain ⟨e, a₁, w₁, hq, harr⟩ := h b (.code y :: k) cs hro hb hr
  cases e with
  | normal =>
    obtain ⟨e₂, a₂, w₂, hq₂, harr₂⟩ := hq b k cs hro hb hr
    exact ⟨e₂, a₂, w₂, hq₂, .of_steps (.head h0 stepR_seq harr.1) harr₂⟩
  | exit id => exact ⟨_, a₁, w₁, hq, .of_steps (.one h0 stepR_seq) (.calm (.pass (x := .code y) rfl (fun _ _ => .inl (by simp)) harr.1) (fun _ h => by cases h))⟩
  | goto l => exact ⟨_, a₁, w₁, hq, .of_steps (.one h0 stepR_seq) (.calm (.pass (x := .code y) rfl (fun _ _ => .inl (by simp)) harr.1) (fun _ h => by cases h))⟩
  | ret => exact ⟨_, a₁, w₁, hq, .of_steps (.one h0 stepR_seq) (.calm (.pass (x := .code y) rfl (fun _ _ => .inl (by simp)) harr.1) (fun _ h => by cases h))⟩
  | panic ch => exact ⟨_, a₁, w₁, hq, .of_steps (.one h0 stepR_seq) harr.leave⟩
  | outgrown => exact ⟨_, a₁, w₁, hq, .of_steps (.one h0 stepR_seq) (.calm (.pass (x := .code y) rfl (fun _ _ => .inl (by simp)) harr.1) (fun _ h => by cases h))⟩
theorem wpQ_cond {c : Operand} {x y : Code} {t : Bool} (hc : a.eval c = .bool t) (h : (if t then x else y).wpQ F n P Q a w) :
    (Code.cond c x y).wpQ F n P Q a w :=
  fun b k cs hro hb hr => let ⟨e, a', w', q, r⟩ := h b k cs hro hb hr; ⟨e, a', w', q, .of_steps (.one (fenced_calm hb hr rfl) (stepR_cond hc)) r⟩
theorem wpQ_block {id : Nat} {c : Code} (h : c.wpQ F n P (Exit.inBlock id Q) a w) : (Code.block id c).wpQ F n P Q a w := by
  intro b k cs hro hb hr
  have h0 : (lone (b.atR a (.code (.block id c) :: k)) cs w).fenced P F := fenced_calm hb hr rfl
  obtain ⟨e, a₁, w₁, hq, harr⟩ := h b (.inBlock id :: k) cs hro hb hr
  cases e with
  | normal => exact ⟨.normal, a₁, w₁, hq, .calm (.head h0 stepR_block (StepsIn.trans harr.1 (.one (fenced_calm hb hr rfl) stepR_inBlock))) (fun _ h => by cases h)⟩
  | exit id' =>
    by_cases hid : id' = id
    · simp only [Exit.inBlock, hid, if_true] at hq
      exact ⟨.normal, a₁, w₁, hq, .calm (.head h0 stepR_block (harr.1.1 k (by simp [exitTo, hid]))) (fun _ h => by cases h)⟩
    · simp only [Exit.inBlock, hid, if_false] at hq
      have this : (id == id') = false := by simp; exact fun h => hid h.symm
      have hx : exitTo id' (.inBlock id :: k) = exitTo id' k := by simp [exitTo, this]
      exact ⟨.exit id', a₁, w₁, hq, .calm ⟨fun k' hk => .head h0 stepR_block (harr.1.1 k' (by rw [hx]; exact hk)),
        fun hr' hk => let ⟨k₁, h1, h2⟩ := harr.1.2 hr' (by rw [hx]; exact hk); ⟨k₁, h1, .head h0 stepR_block h2⟩⟩ (fun _ h => by cases h)⟩
  | goto l =>
    have hx : gotoIn l (.inBlock id :: k) = gotoIn l k := by simp [gotoIn]
    exact ⟨_, a₁, w₁, hq, .calm ⟨fun k' hk => .head h0 stepR_block (harr.1.1 k' (by rw [hx]; exact hk)),
      fun hr' hk => let ⟨k₁, h1, h2⟩ := harr.1.2 hr' (by rw [hx]; exact hk); ⟨k₁, h1, .head h0 stepR_block h2⟩⟩ (fun _ h => by cases h)⟩
  | ret => exact ⟨_, a₁, w₁, hq, .of_steps (.one h0 stepR_block) (.calm harr.1 (fun _ h => by cases h))⟩
  | panic ch => exact ⟨_, a₁, w₁, hq, .of_steps (.one h0 stepR_block) harr.leave⟩
  | outgrown => exact ⟨_, a₁, w₁, hq, .of_steps (.one h0 stepR_block) (.calm harr.1 (fun _ h => by cases h))⟩
theorem wpQ_mono {c : Code} {Q' : Exit → Act → World → Prop} (h : c.wpQ F n P Q a w) (hq : ∀ e a w, Q e a w → Q' e a w) : c.wpQ F n P Q' a w :=
  fun b k cs hro hb hr => let ⟨e, a', w', q, r⟩ := h b k cs hro hb hr; ⟨e, a', w', hq _ _ _ q, r⟩
end
/-- Code of a round that may panic, in frames of which some slots are known. -/
structure CQ (l : Nat) (P : Program) (Q : Exit → Act → World → Prop) (n : Nat) (D : List Deferred) (M : Slots) (c : Code) (w : World) : Prop where
  h : ∀ a, Fr n D M a → c.wpQ (Fence.wide.inRound l) 3 P Q a w
section
variable {l : Nat} {P : Program} {Q : Exit → Act → World → Prop} {n : Nat} {D : List Deferred} {M : Slots} {w : World}
theorem CQ.region {id : Nat} {ol : List Oper} (h : LL (some l) P ol.toArray Q n D M ol w) : CQ l P Q n D M (.region id ol.toArray false) w := CQ.mk fun a F => wpQ_region (h.h a F)
theorem CQ.calm {c : Code} (h : CC (some l) P (calmP Q) n D M c w) : CQ l P Q n D M c w := CQ.mk fun a F => wpQ_calm (h.h a F)
theorem CQ.seq {x y : Code} (h : CQ l P (Exit.then (y.wpQ (Fence.wide.inRound l) 3 P Q) Q) n D M x w) : CQ l P Q n D M (.seq x y) w := CQ.mk fun a F => wpQ_seq (h.h a F)
theorem CQ.yes {c : Operand} {x y : Code} (hc : evM M c = some (.bool true)) (h : CQ l P Q n D M x w) : CQ l P Q n D M (.cond c x y) w := CQ.mk fun a F => wpQ_cond (F.ev hc) (h.h a F)
theorem CQ.no {c : Operand} {x y : Code} (hc : evM M c = some (.bool false)) (h : CQ l P Q n D M y w) : CQ l P Q n D M (.cond c x y) w := CQ.mk fun a F => wpQ_cond (F.ev hc) (h.h a F)
theorem CQ.block {id : Nat} {c : Code} (h : CQ l P (Exit.inBlock id Q) n D M c w) : CQ l P Q n D M (.block id c) w := CQ.mk fun a F => wpQ_block (h.h a F)
theorem EE.thenQ {y : Code} (h : CQ l P Q n D M y w) : EE (Exit.then (y.wpQ (Fence.wide.inRound l) 3 P Q) Q) n D M .normal w := EE.mk fun a F => h.h a F
end
/-- How a round may end, a panic among it. -/
def roundPostP (P : Program) (l : Nat) (R : Ending → World → Prop) : Exit → Act → World → Prop
  | .panic ch, a, w => a.defers = [] ∧ R (.panicked ch) w
  | e, a, w => roundPost P l R e a w
theorem roundIn_of_wpInP {F : Fence} {n : Nat} {P : Program} {l : Nat} {f : FuncId} {tmps : Array Value} {assign body : Code} {w : World} {R : Ending → World → Prop} (hF : F.fn f)
    (h : assign.wpIn (F.inRound l) n P (Exit.then (fun a₁ w₁ => ∃ w₂, (Instr.beginRound l).run P w₁ = .ok () w₂ ∧ body.wpQ (F.inRound l) n P (roundPostP P l R) a₁ w₂) (fun _ _ _ => False))
      { tmps := tmps, defers := [] } w) :
    RoundIn F n P l f tmps assign body w R := by
  refine ⟨hF, fun c cs hr => ?_⟩
  let b : Frame := { (default : Frame) with fn := f, kind := .normal, roundOf := some l }
  have hb0 : Frame.round l f tmps assign body .normal = b.atR { tmps := tmps, defers := [] } [.code assign, .beginRound, .code body] := by
    simp [Frame.round, Frame.atR, b]
  have hr' : (F.inRound l).room ((c :: cs).length + 1 + n) := hr
  have hF' : (F.inRound l).fn b.fn := hF
  obtain ⟨e, a₁, w₁, hq, harr⟩ := h b [.beginRound, .code body] (c :: cs) rfl hF' hr'
  rw [← hb0] at harr
  cases e with
  | normal =>
    obtain ⟨w₂, hbr, hbody⟩ := hq
    have s1 : StepsIn (Machine.fenced P (F.inRound l)) P (lone (b.atR a₁ [.beginRound, .code body]) (c :: cs) w₁) (lone (b.atR a₁ [.code body]) (c :: cs) w₂) :=
      .one (fenced_calm (fr := b.atR a₁ [.beginRound, .code body]) hF' hr' rfl) (stepR_beginRound rfl hbr)
    obtain ⟨e₂, a₂, w₃, hq₂, harr₂⟩ := hbody b [] (c :: cs) rfl hF' hr'
    cases e₂ with
    | normal =>
      obtain ⟨v, w₄, hend, hR⟩ := hq₂
      exact ⟨.returned v, w₄, hR, (StepsIn.trans harr s1).trans (StepsIn.trans harr₂.1 (.one (fenced_calm (fr := b.atR a₂ []) hF' hr' rfl) (stepR_round_end rfl rfl hend)))⟩
    | ret =>
      obtain ⟨v, w₄, hend, hR⟩ := hq₂
      obtain ⟨k₁, hs⟩ := harr₂.1.2 rfl
      exact ⟨.returned v, w₄, hR, (StepsIn.trans harr s1).trans (StepsIn.trans hs (.one (fenced_calm (fr := b.atR a₂ (.code .ret :: k₁)) hF' hr' rfl) (stepR_round_ret rfl rfl hend)))⟩
    | exit id =>
      obtain ⟨v, w₄, hend, hR⟩ := hq₂
      obtain ⟨k₁, hk, hs⟩ := harr₂.1.2 rfl rfl
      exact ⟨.returned v, w₄, hR, (StepsIn.trans harr s1).trans (StepsIn.trans hs (.one (fenced_calm (fr := b.atR a₂ (.code (.exit id) :: k₁)) hF' hr' rfl) (stepR_round_exit rfl rfl hk hend)))⟩
    | goto t =>
      obtain ⟨v, w₄, hend, hR⟩ := hq₂
      obtain ⟨k₁, hk, hs⟩ := harr₂.1.2 rfl rfl
      exact ⟨.returned v, w₄, hR, (StepsIn.trans harr s1).trans (StepsIn.trans hs (.one (fenced_calm (fr := b.atR a₂ (.code (.goto t) :: k₁)) hF' hr' rfl) (stepR_round_goto rfl rfl hk hend)))⟩
    | panic chain =>
      obtain ⟨hd, hR⟩ := hq₂
      obtain ⟨x, k₁, hx, hs⟩ := harr₂.2 chain rfl
      have hlv : step P (lone { b.atR a₂ (x :: k₁) with mode := .panicking chain } (c :: cs) w₃) = .next (lone (c.raise chain) cs w₃) := by
        refine step_lone_go ?_
        have hd' : a₂.defers = [] := hd
        have hct : Frame.catches P { b.atR a₂ (x :: k₁) with mode := .panicking chain } = false := by
          unfold Frame.catches
          split
          · rename_i p q r s t e1 e2
            simp only [Frame.atR, List.cons.injEq] at e2
            exact absurd e2.1 (hx _ _ _ _)
          · rfl
        simp only [stepG, unwind, Frame.atR, hd'] at hct ⊢
        simp [hct]
      exact ⟨.panicked chain, w₃, hR, (StepsIn.trans harr s1).trans (StepsIn.trans hs (.one (fenced_calm (fr := { b.atR a₂ (x :: k₁) with mode := .panicking chain }) hF' hr' (by simp [Frame.about, Frame.atR, hd])) hlv))⟩
    | outgrown => exact hq₂.elim
  | exit id => exact hq.elim
  | goto t => exact hq.elim
  | ret => exact hq.elim
  | panic chain => exact hq.elim
  | outgrown => exact hq.elim
/-- HOW THE BODY OF A ROUND MAY BE LEFT. -/
def roundPP {α : Type} (B : Nat) (m : Nat → Prop) (D : Nat → Prop) (I : (Nat → Prop) → List α → World → Prop) (Ix : Code → (Nat → Prop) → List α → World → Prop) (Ip : List PanicEntry → World → Prop) (xs : List α) (W : World) : Exit → Act → World → Prop
  | .normal, _, W' => StaysZ B m W W' ∧ Keeps D W W' ∧ I m xs W'
  | .ret, _, W' => StaysZ B m W W' ∧ Ix .ret m xs W'
  | .exit id, _, W' => StaysZ B m W W' ∧ Ix (.exit id) m xs W'
  | .goto t, _, W' => StaysZ B m W W' ∧ Ix (.goto t) m xs W'
  | .panic ch, a, W' => a.defers = [] ∧ StaysZ B m W W' ∧ Ip ch W'
  | .outgrown, _, _ => False

/-- WHAT AN ITERATOR'S VALUE GIVES: one of the lists of S, or a beginning of one, where a round has said 'no more'. -/
def GivesP {α : Type} (P : Program) (g : Nat) (lb : Array Value) (encs : α → Array Value) (D : Nat → Prop) (S : List α → Prop) (w : World) : Prop :=
  ∀ (l : Nat) (J Jx : (Nat → Prop) → List α → World → Prop) (Jp : List PanicEntry → World → Prop) (W : World), Below w.heap.size w W → (AbidesZ W.heap.size J) → (AbidesZ W.heap.size Jx) → (∀ ch m X Y, Jp ch X → TurnsZ W.heap.size m X Y → Jp ch Y) →
    (∀ m pre x W1, (∀ k, m k → W.heap.size ≤ k ∧ k < W1.heap.size) → J m pre W1 → Part S (pre ++ [x]) → YieldAt Fence.wide 3 P l (encs x) W1 fun e W' =>
      StaysZ W.heap.size m W1 W' ∧ ((e = .returned (.bool true) ∧ J m (pre ++ [x]) W' ∧ Keeps D W1 W') ∨ (e = .returned (.bool false) ∧ Jx m (pre ++ [x]) W') ∨ ∃ ch, e = .panicked ch ∧ Jp ch W')) →
    (J (fun _ => False) [] W) →
    Calls P g (#[.func (.yield l) #[] #[]] ++ lb) W fun e W' => ((∃ v, e = .returned v) ∧ ((∃ m xs, S xs ∧ J m xs W') ∨ (∃ m pre, Part S pre ∧ Jx m pre W'))) ∨ ∃ ch, e = .panicked ch ∧ Jp ch W'

theorem GivesP.later {α : Type} {P : Program} {g : Nat} {lb : Array Value} {encs : α → Array Value} {D : Nat → Prop} {S : List α → Prop} {w w' : World}
    (h : GivesP P g lb encs D S w) (hb : Below w.heap.size w w') : GivesP P g lb encs D S w' :=
  fun l J Jx Jp W hW hJ hJx hJp hY h0 => h l J Jx Jp W (hb.trans (hW.mono hb.size)) hJ hJx hJp hY h0

section core
variable {α : Type} {P : Program}

theorem coreP {l B d gf : Nat} {D : Nat → Prop} {fn : FuncId} {tm : Array Value} {ps : Array Tmp} {assign body : Code} {lb : Array Value} {encs : α → Array Value} {S : List α → Prop} {w0 W1 : World}
    (hseq : GivesP P gf lb encs D S w0) (hb : Below w0.heap.size w0 W1)
    (hl : W1.heap[l]? = some (.loop { state := .ready, pending := none, fn, tmps := tm, params := ps, assign, body, defers := d }))
    (hBl : B ≤ l) (hn : ∀ k, D k → k < l) (hps : ∀ x, (encs x).size = ps.size)
    (I : (Nat → Prop) → List α → World → Prop) (Ix : Code → (Nat → Prop) → List α → World → Prop) (Ip : List PanicEntry → World → Prop) (hI : AbidesZ B I) (hIx : ∀ c, AbidesZ B (Ix c)) (hIp : ∀ ch m X Y, Ip ch X → TurnsZ B m X Y → Ip ch Y) (h0 : I (fun _ => False) [] W1)
    (Ax : α → Act → World → Prop) (hAx : ∀ x a', OwnFrom B (fun (_ : Unit) W => Ax x a' W))
    (hassign : ∀ m pre x W (K : Act → World → Prop), (∀ k, m k → W1.heap.size ≤ k ∧ k < W.heap.size) → I m pre W → (∀ a' W', StaysZ B m W W' → Keeps D W W' → I m pre W' → Ax x a' W' → K a' W') →
      assign.wpIn (Fence.wide.inRound l) 3 P (Exit.then K (fun _ _ _ => False)) { tmps := (ps.zip (encs x)).foldl (fun t (p, v) => t.setIfInBounds p v) tm, defers := [] } W)
    (hbody : ∀ m pre x a' W, (∀ k, m k → W1.heap.size ≤ k ∧ k < W.heap.size) → (∃ r, W.heap[l]? = some (.loop r)) → I m pre W → Ax x a' W → Part S (pre ++ [x]) →
      body.wpQ (Fence.wide.inRound l) 3 P (roundPP B m D I Ix Ip (pre ++ [x]) W) a' W) :
    Calls P gf (#[.func (.yield l) #[] #[]] ++ lb) W1 (fun e W2 => ((∃ v, e = .returned v) ∧ ∃ jump W3, (Instr.endLoop l).run P W2 = .ok jump W3 ∧
      ((jump = none ∧ ∃ m xs, S xs ∧ I m xs W3) ∨ (∃ c m pre, jump = some c ∧ Part S pre ∧ Ix c m pre W3))) ∨ ∃ ch, e = .panicked ch ∧ Ip ch W2) := by
  have hlt1 : l < W1.heap.size := (Array.getElem?_eq_some_iff.1 hl).1
  obtain ⟨rec, hrec⟩ : ∃ rec : LoopState → Option Code → Loop, rec = fun st pe => { state := st, pending := pe, fn, tmps := tm, params := ps, assign, body, defers := d } := ⟨_, rfl⟩
  have hl1 : W1.heap[l]? = some (.loop (rec .ready none)) := by rw [hrec]; exact hl
  refine (hseq l (fun m pre W => I m pre W ∧ W.heap[l]? = some (.loop (rec .ready none)))
    (fun m pre W => ∃ c, Ix c m pre W ∧ W.heap[l]? = some (.loop (rec .done (some c)))) Ip W1 hb
    (fun m m' s X Y hs ht hg => ⟨hI m m' s X Y hs.1 (ht.mono (by omega)) hg, ht.same l _ hs.2 (.inl hlt1)⟩)
    (fun m m' s X Y hs ht hg => by obtain ⟨c, hc, hx⟩ := hs; exact ⟨c, hIx c m m' s X Y hc (ht.mono (by omega)) hg, ht.same l _ hx (.inl hlt1)⟩)
    (fun ch m X Y hs ht => hIp ch m X Y hs (ht.mono (by omega))) ?_ ⟨h0, hl1⟩).mono ?_
  · rintro m pre x W hm ⟨hi, hlw⟩ hpart
    have hy := run_yield (P := P) (args := encs x) hlw (by rw [hrec]; exact hps x)
    rw [hrec] at hy
    refine ⟨fn, _, assign, body, hy, roundIn_of_wpInP trivial (hassign m pre x W _ hm hi ?_)⟩
    intro a' Wa hst hbe hia hax
    have hla := hst.record hBl hlw
    have hlta : l < Wa.heap.size := (Array.getElem?_eq_some_iff.1 hla).1
    obtain ⟨Wb, hWb⟩ : ∃ Wb, Wa.putObj l (.loop { rec .ready none with state := .busy }) = Wb := ⟨_, rfl⟩
    refine ⟨Wb, by rw [← hWb]; exact run_beginRound hla (by rw [hrec]), ?_⟩
    have hlb : Wb.heap[l]? = some (.loop { rec .ready none with state := .busy }) := by rw [← hWb]; exact World.putObj_heap_same hlta
    have hib : I m pre Wb := by rw [← hWb]; exact hI.putObj _ hia hBl hla rfl
    have haxb : Ax x a' Wb := by rw [← hWb]; exact (hAx x a').putObj (s := ()) _ hax hBl hla rfl
    have hsb : StaysZ W1.heap.size m W Wb := by rw [← hWb]; exact (hst.mono (by omega)).trans (.turn hlt1)
    have hDl : ¬ D l := fun h => Nat.lt_irrefl _ (hn l h)
    have hbb : Keeps D W Wb := by rw [← hWb]; exact hbe.putObj hDl _
    refine wpQ_mono (hbody m pre x a' Wb (fun k hk => ⟨(hm k hk).1, Nat.lt_of_lt_of_le (hm k hk).2 hsb.size⟩) ⟨_, hlb⟩ hib haxb hpart) ?_
    have fin : ∀ (jump : Option Code) (W3 : World), StaysZ B m Wb W3 → ∃ W4, W4 = W3.putObj l (.loop (rec (if jump.isNone then .ready else .done) jump)) ∧
        (Instr.endRound l jump).run P W3 = .ok (.bool jump.isNone) W4 ∧ W4.heap[l]? = some (.loop (rec (if jump.isNone then .ready else .done) jump)) ∧
        W3.heap[l]? = some (.loop { rec .ready none with state := .busy }) ∧ StaysZ W1.heap.size m W W4 := fun jump W3 hs3 => by
      have hl3 := hs3.record hBl hlb
      have hr := run_endRound (P := P) jump hl3
      rw [hrec] at hr ⊢
      refine ⟨_, rfl, hr, World.putObj_heap_same (Array.getElem?_eq_some_iff.1 hl3).1, by rw [hrec] at hl3; exact hl3, ?_⟩
      exact (hsb.trans (hs3.mono (by omega))).trans (.turn hlt1)
    rintro e a3 W3 hp
    cases e with
    | normal =>
      obtain ⟨hs3, hb3, hi3⟩ := hp
      obtain ⟨W4, e4, hr, hl4, hl3, hs4⟩ := fin none W3 hs3
      refine ⟨_, W4, hr, hs4, .inl ⟨rfl, ⟨?_, hl4⟩, ?_⟩⟩
      · rw [e4]; exact hI.putObj _ hi3 hBl hl3 rfl
      · rw [e4]; exact (hbb.trans hb3).putObj hDl _
    | ret =>
      obtain ⟨hs3, hi3⟩ := hp
      obtain ⟨W4, e4, hr, hl4, hl3, hs4⟩ := fin (some .ret) W3 hs3
      exact ⟨_, W4, hr, hs4, .inr (.inl ⟨rfl, .ret, by rw [e4]; exact (hIx _).putObj _ hi3 hBl hl3 rfl, hl4⟩)⟩
    | exit id =>
      obtain ⟨hs3, hi3⟩ := hp
      obtain ⟨W4, e4, hr, hl4, hl3, hs4⟩ := fin (some (.exit id)) W3 hs3
      exact ⟨_, W4, hr, hs4, .inr (.inl ⟨rfl, .exit id, by rw [e4]; exact (hIx _).putObj _ hi3 hBl hl3 rfl, hl4⟩)⟩
    | goto t =>
      obtain ⟨hs3, hi3⟩ := hp
      obtain ⟨W4, e4, hr, hl4, hl3, hs4⟩ := fin (some (.goto t)) W3 hs3
      exact ⟨_, W4, hr, hs4, .inr (.inl ⟨rfl, .goto t, by rw [e4]; exact (hIx _).putObj _ hi3 hBl hl3 rfl, hl4⟩)⟩
    | panic ch => exact ⟨hp.1, (hsb.trans (hp.2.1.mono (by omega))), .inr (.inr ⟨ch, rfl, hp.2.2⟩)⟩
    | outgrown => exact hp.elim
  · rintro e W2 (⟨hv, (⟨m, xs, hS, hi, hlw⟩ | ⟨m, pre, hp, c, hi, hlw⟩)⟩ | hpn)
    · have hr := run_endLoop (P := P) hlw (by rw [hrec]; simp)
      refine .inl ⟨hv, _, _, hr, .inl ⟨by rw [hrec], m, xs, hS, hI.putObj _ hi hBl hlw rfl⟩⟩
    · have hr := run_endLoop (P := P) hlw (by rw [hrec]; simp)
      refine .inl ⟨hv, _, _, hr, .inr ⟨c, m, pre, by rw [hrec], hp, (hIx c).putObj _ hi hBl hlw rfl⟩⟩
    · exact .inr hpn

/-- THE STATEMENT, OUTERMOST. D is the block of the rounds' deferred calls: at the function's return it is taken once more. -/
theorem rangeP_out {gf : Nat} {D : Nat → Prop} {g : Operand} {ps : Array Tmp} {assign body : Code} {Q : Exit → Act → World → Prop} {a : Act} {w w0 : World} {lb : Array Value} {encs : α → Array Value} {S : List α → Prop}
    (hg : a.eval g = .func (.func gf) #[] lb) (eg : ∀ args w, (callFunc gf args).run P w = .ok (.enter gf args) w)
    (hseq : GivesP P gf lb encs D S w0) (hb : Below w0.heap.size w0 w) (hn : ∀ k, D k → k < w.heap.size) (hps : ∀ x, (encs x).size = ps.size)
    (I : (Nat → Prop) → List α → World → Prop) (Ix : Code → (Nat → Prop) → List α → World → Prop) (Ip : List PanicEntry → World → Prop) (hI : AbidesZ w.heap.size I) (hIx : ∀ c, AbidesZ w.heap.size (Ix c)) (hIp : ∀ ch m X Y, Ip ch X → TurnsZ w.heap.size m X Y → Ip ch Y) (h0 : I (fun _ => False) [] w)
    (Ax : α → Act → World → Prop) (hAx : ∀ x a', OwnFrom w.heap.size (fun (_ : Unit) W => Ax x a' W))
    (hassign : ∀ (l : Nat) (m : Nat → Prop) pre x W (K : Act → World → Prop), (∀ k, m k → w.heap.size ≤ k ∧ k < W.heap.size) → I m pre W → (∀ a' W', StaysZ w.heap.size m W W' → Keeps D W W' → I m pre W' → Ax x a' W' → K a' W') →
      assign.wpIn (Fence.wide.inRound l) 3 P (Exit.then K (fun _ _ _ => False)) { tmps := (ps.zip (encs x)).foldl (fun t (p, v) => t.setIfInBounds p v) a.tmps, defers := [] } W)
    (hbody : ∀ (l : Nat) (m : Nat → Prop) pre x a' W, (∀ k, m k → w.heap.size ≤ k ∧ k < W.heap.size) → w.heap.size ≤ l → (∃ r, W.heap[l]? = some (.loop r)) → I m pre W → Ax x a' W → Part S (pre ++ [x]) →
      body.wpQ (Fence.wide.inRound l) 3 P (roundPP w.heap.size m D I Ix Ip (pre ++ [x]) W) a' W)
    (hdone : ∀ (E : Nat) (m : Nat → Prop) xs W, w.heap.size ≤ E → S xs → I m xs W → W.heap[E]? = some (.deferred (some [])) → Q .normal { a with defers := { target := .collected E, args := #[] } :: a.defers } W)
    (hstop : ∀ (E : Nat) (c : Code) (m : Nat → Prop) pre W, w.heap.size ≤ E → Part S pre → Ix c m pre W → W.heap[E]? = some (.deferred (some [])) →
      c.wpIn Fence.wide 3 P Q { a with defers := { target := .collected E, args := #[] } :: a.defers } W)
    (hpan : ∀ (E : Nat) ch W, w.heap.size ≤ E → Ip ch W → W.heap[E]? = some (.deferred (some [])) → Q (.panic ch) { a with defers := { target := .collected E, args := #[] } :: a.defers } W) :
    (Code.rangeFunc g ps assign body).wpIn Fence.wide 3 P Q a w := by
  refine wpIn_rangeFunc ?_
  intro fn hfn
  obtain ⟨W1, hW1⟩ : ∃ W1, (w.alloc (.deferred (some []))).alloc (.loop { state := .ready, pending := none, fn, tmps := a.tmps, params := ps, assign, body, defers := w.heap.size }) = W1 := ⟨_, rfl⟩
  have hL1 : W1.heap[w.heap.size + 1]? = some (.loop { state := .ready, pending := none, fn, tmps := a.tmps, params := ps, assign, body, defers := w.heap.size }) := by
    rw [← hW1]; have := World.alloc_heap_new (w.alloc (.deferred (some []))) (.loop { state := .ready, pending := none, fn, tmps := a.tmps, params := ps, assign, body, defers := w.heap.size }); rwa [World.size_alloc] at this
  have hK1 : W1.heap[w.heap.size]? = some (.deferred (some [])) := by
    rw [← hW1]; exact (Below.heap_alloc _ _ _ (by simp)).trans (World.alloc_heap_new w _)
  have hbw : Below w.heap.size w W1 := by rw [← hW1]; exact ((Below.refl _ w).alloc (Nat.le_refl _) _).alloc (by simp) _
  refine ⟨w.heap.size + 1, [{ target := .collected w.heap.size, args := #[] }], W1, { target := .fn (.func gf) lb, args := #[.func (.yield (w.heap.size + 1)) #[] #[]] }, W1, gf,
    #[.func (.yield (w.heap.size + 1)) #[] #[]] ++ lb, W1, ?_, ?_, fun _ _ => trivial, ?_, fun h => (by simp [Fence.wide] at h), ?_⟩
  · rw [← hW1]; exact run_enterLoop_outer _ _ _ _ _
  · simp only [resolve, hg]
    simp [go_sem]
  · simp [invoke, go_sem, eg]
  · refine callsIn_wide.2 ((coreP (B := w.heap.size + 1) hseq (hb.trans (hbw.mono hb.size)) hL1 (Nat.le_refl _) (fun k hk => Nat.lt_succ_of_lt (hn k hk)) hps
      (fun m pre W => I m pre W ∧ W.heap[w.heap.size]? = some (.deferred (some []))) (fun c m pre W => Ix c m pre W ∧ W.heap[w.heap.size]? = some (.deferred (some []))) (fun ch W => Ip ch W ∧ W.heap[w.heap.size]? = some (.deferred (some [])))
      (fun m m' s X Y hs ht hg => ⟨hI m m' s X Y hs.1 (ht.mono (by omega)) hg, ht.same _ _ hs.2 (.inl (by omega))⟩)
      (fun c m m' s X Y hs ht hg => ⟨hIx c m m' s X Y hs.1 (ht.mono (by omega)) hg, ht.same _ _ hs.2 (.inl (by omega))⟩)
      (fun ch m X Y hs ht => ⟨hIp ch m X Y hs.1 (ht.mono (by omega)), ht.same _ _ hs.2 (.inl (by omega))⟩)
      ⟨hI _ _ _ _ _ h0 (.of_below hbw) (fun k hk => hk.elim), hK1⟩ Ax (fun x a' s X Y row hs hg' hr => hAx x a' s X Y row hs hg' (fun r e => ⟨by have := (hr r e).1; omega, (hr r e).2⟩))
      (fun m pre x W K hm hi hK => hassign _ m pre x W K (fun k hk => ⟨Nat.le_trans hbw.size (hm k hk).1, (hm k hk).2⟩) hi.1 (fun a' W' hs hbe hi' hax => hK a' W' (hs.mono (by omega)) hbe ⟨hi', hs.same _ _ (Nat.le_refl _) hi.2 (.inr rfl)⟩ hax))
      (fun m pre x a' W hm hr hi hax hp => wpQ_mono (hbody _ m pre x a' W (fun k hk => ⟨Nat.le_trans hbw.size (hm k hk).1, (hm k hk).2⟩) (by omega) hr hi.1 hax hp) ?_)).mono ?_)
    · intro e a3 W3 h3
      have hD : ∀ {W' : World}, StaysZ w.heap.size m W W' → W'.heap[w.heap.size]? = some (.deferred (some [])) := fun hs => hs.same _ _ (Nat.le_refl _) hi.2 (.inr rfl)
      cases e with
      | normal => exact ⟨h3.1.mono (by omega), h3.2.1, h3.2.2, hD h3.1⟩
      | ret => exact ⟨h3.1.mono (by omega), h3.2, hD h3.1⟩
      | exit id => exact ⟨h3.1.mono (by omega), h3.2, hD h3.1⟩
      | goto t => exact ⟨h3.1.mono (by omega), h3.2, hD h3.1⟩
      | panic ch => exact ⟨h3.1, h3.2.1.mono (by omega), h3.2.2, hD h3.2.1⟩
      | outgrown => exact h3
    · rintro e W2 (⟨⟨v, rfl⟩, jump, W3, hr, (⟨rfl, m, xs, hS, hi, hD⟩ | ⟨c, m, pre, rfl, hp, hi, hD⟩)⟩ | ⟨ch, rfl, hi, hD⟩)
      · exact ⟨none, W3, hr, hdone _ m xs W3 (Nat.le_refl _) hS hi hD⟩
      · exact ⟨some c, W3, hr, hstop _ c m pre W3 (Nat.le_refl _) hp hi hD⟩
      · exact hpan _ ch W2 (Nat.le_refl _) hi hD

/-- THE STATEMENT, OUTERMOST, WHERE A ROUND LEAVES BY 'break' AT MOST. -/
theorem rangeP_break {id gf : Nat} {D : Nat → Prop} {g : Operand} {ps : Array Tmp} {assign body : Code} {Q : Exit → Act → World → Prop} {a : Act} {w w0 : World} {lb : Array Value} {encs : α → Array Value} {S : List α → Prop}
    (hg : a.eval g = .func (.func gf) #[] lb) (eg : ∀ args w, (callFunc gf args).run P w = .ok (.enter gf args) w)
    (hseq : GivesP P gf lb encs D S w0) (hb : Below w0.heap.size w0 w) (hn : ∀ k, D k → k < w.heap.size) (hps : ∀ x, (encs x).size = ps.size)
    (I Ix : (Nat → Prop) → List α → World → Prop) (Ip : List PanicEntry → World → Prop) (A : World → Prop) (hI : AbidesZ w.heap.size I) (hIx : AbidesZ w.heap.size Ix) (hIp : ∀ ch m X Y, Ip ch X → TurnsZ w.heap.size m X Y → Ip ch Y) (h0 : I (fun _ => False) [] w)
    (Ax : α → Act → World → Prop) (hAx : ∀ x a', OwnFrom w.heap.size (fun (_ : Unit) W => Ax x a' W))
    (hIA : ∀ m xs W, S xs → I m xs W → A W) (hIxA : ∀ m pre W, Part S pre → Ix m pre W → A W)
    (hassign : ∀ (l : Nat) (m : Nat → Prop) pre x W (K : Act → World → Prop), (∀ k, m k → w.heap.size ≤ k ∧ k < W.heap.size) → I m pre W → (∀ a' W', StaysZ w.heap.size m W W' → Keeps D W W' → I m pre W' → Ax x a' W' → K a' W') →
      assign.wpIn (Fence.wide.inRound l) 3 P (Exit.then K (fun _ _ _ => False)) { tmps := (ps.zip (encs x)).foldl (fun t (p, v) => t.setIfInBounds p v) a.tmps, defers := [] } W)
    (hbody : ∀ (l : Nat) (m : Nat → Prop) pre x a' W, (∀ k, m k → w.heap.size ≤ k ∧ k < W.heap.size) → w.heap.size ≤ l → (∃ r, W.heap[l]? = some (.loop r)) → I m pre W → Ax x a' W → Part S (pre ++ [x]) →
      body.wpQ (Fence.wide.inRound l) 3 P (roundPP w.heap.size m D I (fun c m pre W => c = .exit id ∧ Ix m pre W) Ip (pre ++ [x]) W) a' W)
    (hafter : ∀ (E : Nat) W, w.heap.size ≤ E → A W → W.heap[E]? = some (.deferred (some [])) → Q .normal { a with defers := { target := .collected E, args := #[] } :: a.defers } W)
    (hpan : ∀ (E : Nat) ch W, w.heap.size ≤ E → Ip ch W → W.heap[E]? = some (.deferred (some [])) → Q (.panic ch) { a with defers := { target := .collected E, args := #[] } :: a.defers } W) :
    (Code.rangeFunc g ps assign body).wpIn Fence.wide 3 P (Exit.inBlock id Q) a w :=
  rangeP_out hg eg hseq hb hn hps I (fun c m pre W => c = .exit id ∧ Ix m pre W) Ip hI (fun c m m' s W W' hs ht hg => ⟨hs.1, hIx m m' s W W' hs.2 ht hg⟩) hIp h0 Ax hAx hassign hbody
    (fun E m xs W hE hS hi hK => hafter E W hE (hIA m xs W hS hi) hK)
    (fun E c m pre W hE hp hi hK => by
      obtain ⟨rfl, hi⟩ := hi
      refine wpIn_exit ?_
      have := hafter E W hE (hIxA m pre W hp hi) hK
      simpa [Exit.inBlock] using this)
    (fun E ch W hE hi hK => by
      have := hpan E ch W hE hi hK
      simpa [Exit.inBlock] using this)

end core


section
variable {α γ : Type} {P : Program} {n : Nat} {D : List Deferred} {M : Slots}
/-- A range over a function, outermost, of which a round may break at most. -/
theorem CC.rangeP {id gf : Nat} {Dk : Nat → Prop} {g : Operand} {ps : Array Tmp} {assign body : Code} {Q : Exit → Act → World → Prop} {w w0 : World} {lb : List Value} {encs : α → List Value} {S : List α → Prop}
    (hg : evM M g = some (.func (.func gf) #[] lb.toArray)) (eg : entB P gf = true) (hseq : GivesP P gf lb.toArray (fun x => (encs x).toArray) Dk S w0) (hb : Below w0.heap.size w0 w) (hn : ∀ k, Dk k → k < w.heap.size) (hps : ∀ x, (encs x).length = ps.size) (hpn : (ps.toList.all fun p => Nat.blt p n) = true)
    (I Ix : (Nat → Prop) → List α → World → Prop) (Ip : List PanicEntry → World → Prop) (A : World → Prop) (hI : AbidesZ w.heap.size I) (hIx : AbidesZ w.heap.size Ix) (hIp : ∀ ch m X Y, Ip ch X → TurnsZ w.heap.size m X Y → Ip ch Y) (h0 : I (fun _ => False) [] w) (hIA : ∀ m xs W, S xs → I m xs W → A W) (hIxA : ∀ m pre W, Part S pre → Ix m pre W → A W)
    (Mx : α → γ → Slots) (Ax : α → γ → World → Prop) (hAx : ∀ x c, OwnFrom w.heap.size (fun (_ : Unit) W => Ax x c W))
    (hassign : ∀ (l : Nat) (m : Nat → Prop) pre x W (K : Act → World → Prop), (∀ k, m k → w.heap.size ≤ k ∧ k < W.heap.size) → I m pre W → (∀ a' W' c, StaysZ w.heap.size m W W' → Keeps Dk W W' → I m pre W' → Fr n [] (Mx x c) a' → Ax x c W' → K a' W') → CC (some l) P (Exit.then K (fun _ _ _ => False)) n [] (psM M ps.toList (encs x)) assign W)
    (hbody : ∀ (l : Nat) (m : Nat → Prop) pre x c W, (∀ k, m k → w.heap.size ≤ k ∧ k < W.heap.size) → w.heap.size ≤ l → (∃ r, W.heap[l]? = some (.loop r)) → I m pre W → Ax x c W → Part S (pre ++ [x]) → CQ l P (roundPP w.heap.size m Dk I (fun c m pre W => c = .exit id ∧ Ix m pre W) Ip (pre ++ [x]) W) n [] (Mx x c) body W)
    (hafter : ∀ (E : Nat) W, w.heap.size ≤ E → A W → W.heap[E]? = some (.deferred (some [])) → EE Q n (mark E :: D) M .normal W)
    (hpan : ∀ (E : Nat) ch W, w.heap.size ≤ E → Ip ch W → W.heap[E]? = some (.deferred (some [])) → EE Q n (mark E :: D) M (.panic ch) W) :
    CC none P (Exit.inBlock id Q) n D M (.rangeFunc g ps assign body) w := CC.mk fun a F => by
  refine rangeP_break (gf := gf) (lb := lb.toArray) (F.ev hg) (ent_of eg) hseq hb hn (fun x => by simpa using hps x) I Ix Ip A hI hIx hIp h0 (fun x a' W => ∃ c, Fr n [] (Mx x c) a' ∧ Ax x c W) (fun x a' _ W W' row hs hg hr => by
    obtain ⟨c, hF, hc⟩ := hs
    exact ⟨c, hF, hAx x c () W W' row hc hg hr⟩) hIA hIxA ?_ ?_ ?_ ?_
  · intro l m pre x W K hm hi hK
    refine (hassign l m pre x W K hm hi fun a' W' c h1 h2 h3 h4 h5 => hK a' W' h1 h2 h3 ⟨c, h4, h5⟩).h _ ?_
    have F0 : Fr n [] M ⟨a.tmps, []⟩ := ⟨F.size, rfl, F.get⟩
    have := psM_fr ps.toList (encs x) M a.tmps [] F0 hpn
    have e : (ps.zip (encs x).toArray).foldl (fun t (p, v) => t.setIfInBounds p v) a.tmps = (ps.toList.zip (encs x)).foldl (fun t (p, v) => t.setIfInBounds p v) a.tmps := by
      obtain ⟨l⟩ := ps
      rw [← Array.foldl_toList]
      simp
    rw [e]
    exact this
  · intro l m pre x a' W hm hl hr hi hax hp
    obtain ⟨c, hF, hc⟩ := hax
    exact (hbody l m pre x c W hm hl hr hi hc hp).h a' hF
  · intro E W hE hA hd
    exact (hafter E W hE hA hd).h _ ⟨F.size, by rw [F.defers]; rfl, F.get⟩
  · intro E ch W hE hA hd
    exact (hpan E ch W hE hA hd).h _ ⟨F.size, by rw [F.defers]; rfl, F.get⟩
theorem EE.roundNP {B : Nat} {m : Nat → Prop} {Dk : Nat → Prop} {I : (Nat → Prop) → List α → World → Prop} {Ix : Code → (Nat → Prop) → List α → World → Prop} {Ip : List PanicEntry → World → Prop} {xs : List α} {W w : World} (h : StaysZ B m W w ∧ Keeps Dk W w ∧ I m xs w) : EE (roundPP B m Dk I Ix Ip xs W) n D M .normal w := EE.mk fun _ _ => h
theorem EE.roundXP {B id : Nat} {m : Nat → Prop} {Dk : Nat → Prop} {I : (Nat → Prop) → List α → World → Prop} {Ix : Code → (Nat → Prop) → List α → World → Prop} {Ip : List PanicEntry → World → Prop} {xs : List α} {W w : World} (h : StaysZ B m W w ∧ Ix (.exit id) m xs w) : EE (roundPP B m Dk I Ix Ip xs W) n D M (.exit id) w := EE.mk fun _ _ => h
theorem EE.roundRP {B : Nat} {m : Nat → Prop} {Dk : Nat → Prop} {I : (Nat → Prop) → List α → World → Prop} {Ix : Code → (Nat → Prop) → List α → World → Prop} {Ip : List PanicEntry → World → Prop} {xs : List α} {W w : World} (h : StaysZ B m W w ∧ Ix .ret m xs w) : EE (roundPP B m Dk I Ix Ip xs W) n D M .ret w := EE.mk fun _ _ => h
theorem EE.roundPP {B : Nat} {m : Nat → Prop} {Dk : Nat → Prop} {I : (Nat → Prop) → List α → World → Prop} {Ix : Code → (Nat → Prop) → List α → World → Prop} {Ip : List PanicEntry → World → Prop} {xs : List α} {W w : World} {ch : List PanicEntry} (h : StaysZ B m W w ∧ Ip ch w) : EE (roundPP B m Dk I Ix Ip xs W) n [] M (.panic ch) w := EE.mk fun _ F => ⟨F.defers, h⟩
/-- An iterator whose rounds do not panic. -/
theorem GivesP.z {g : Nat} {lb : Array Value} {encs : α → Array Value} {Dk : Nat → Prop} {S : List α → Prop} {w : World} (h : GivesP P g lb encs Dk S w) : GivesZ P g lb encs Dk S w := by
  intro l J Jx W hW hJ hJx hY h0
  refine (h l J Jx (fun _ _ => False) W hW hJ hJx (fun _ _ _ _ h _ => h) (fun m pre x W1 hm hJ1 hp => ?_) h0).mono ?_
  · obtain ⟨fn, tm, ag, bd, hy, hR⟩ := hY m pre x W1 hm hJ1 hp
    refine ⟨fn, tm, ag, bd, hy, hR.mono ?_⟩
    rintro e W' ⟨hs, h | h⟩
    · exact ⟨hs, .inl h⟩
    · exact ⟨hs, .inr (.inl h)⟩
  · rintro e W' (h | ⟨_, _, h⟩)
    · exact h
    · exact h.elim
end
/-- A round that ends, or panics. -/
theorem LL.yieldX {P : Program} {n : Nat} {D : List Deferred} {M : Slots} {r : Option Nat} {ops : Array Oper} {Q : Exit → Act → World → Prop} {rest : List Oper} {o : Oper} {w : World} {x : Operand} {xs : Array Operand} {ts : Array TypeId} {vs : List Value} {l : Nat} {R : Ending → World → Prop} (ho : o.op = .call { callee := .value x, args := xs, argTypes := ts }) (hf : evM M x = some (.func (.yield l) #[] #[])) (hx : evsM M xs.toList = some vs) (hd : dstB n o.dst = true) (hg : wantB ops M o.guard = some true)
    (hY : YieldAt Fence.wide 3 P l vs.toArray w R) (k : ∀ e w', R e w' → (∃ v, e = .returned v ∧ LL r P ops Q n D (putM M o.dst v) rest w') ∨ (∃ ch, e = .panicked ch ∧ EE Q n D M (.panic ch) w')) : LL r P ops Q n D M (o :: rest) w := LL.mk fun a F => by
  obtain ⟨fn, tmps, assign, body, hy, hR⟩ := hY
  refine wpListIn_step fun K hK => ?_
  rw [if_pos (F.want hg)]
  have hm := evs_mapA F hx
  refine wpIn_of_run (x := .round l fn tmps assign body) (w' := w) (by rw [ho]; rfl) ?_ ⟨fun h => (by cases h), roundWr (hR.mono fun e w' hR' => ?_)⟩
  · unfold execOp
    simp only [ho, resolve, F.ev hf, hm, Deferred.ofValue, invoke, Sem.run_bind, Sem.run_pure, Result.andThen_ok, Array.empty_append]
    exact hy
  · rcases k e w' hR' with ⟨v, rfl, hk⟩ | ⟨ch, rfl, hk⟩
    · exact hK _ _ (hk.h _ (F.put _ _ hd))
    · exact hk.h _ F
end Go.Proofs.Ytloflmkolnediaa

/- clear behind the end of a slice of structs that the call owns; s[lo:hi]. -/
namespace Go.Proofs.Ytloflmkolnediaa
set_option linter.unusedVariables false
set_option linter.unusedSimpArgs false
open Go.RowKit Go.Shelf

section
variable {α : Type} {enc : α → List Value} {k : Nat} {P : Program} {T e : TypeId} {z : Value} {bytes : Nat}
theorem run_part_t (I : ElT P T e z k bytes) (a : Option Addr) (len cap lo hi : Nat) (h : lo ≤ hi) (hc : hi ≤ cap) (w : World) :
    (Instr.slice T (.slice a len cap) (some (.int .i64 (lo : Int))) (some (.int .i64 (hi : Int))) none).run P w = .ok (.slice (if cap = lo then a else a.map fun p => p.add (lo * k)) (hi - lo) (cap - lo)) w := by
  obtain ⟨i, hi', hz, hsz, hby⟩ := I.info
  simp [Instr.slice, run_underlying I.under, Instr.sliceBounds, run_sliceBound, sizeOf, typeInfo, hi', hsz, (by omega : (lo : Int) ≤ (hi : Int)), (by omega : (hi : Int) ≤ (cap : Int))]
theorem run_clear_none (hu : P.underlying T = some (.slice e)) (ty : TypeId) (a : Option Addr) (c : Nat) (w : World) : (Builtin.clear_ #[T] ty #[.slice a 0 c]).run P w = .ok (.tuple #[]) w := by
  cases a <;> simp [Builtin.clear_, run_underlying hu]
theorem run_clear_t (E : Enc enc k) (I : ElT P T e z k bytes) (hz1 : ∀ u ∈ z.cells, u.oneCell' = true) (ty : TypeId) {base g cap m c : Nat} {ts : List α} {w : World} (hown : OwnsT enc k w base e (.slice (some ⟨g, 0, none⟩) ts.length cap) ts) (hm : ts.length + m ≤ cap) :
    ∃ w', (Builtin.clear_ #[T] ty #[.slice (some ⟨g, ts.length * k, none⟩) m c]).run P w = .ok (.tuple #[]) w' ∧ OwnsT enc k w' base e (.slice (some ⟨g, 0, none⟩) ts.length cap) ts ∧ w.grownBy w' (some g) := by
  obtain ⟨i, hi, hz, hsz, hby⟩ := I.info
  rcases Nat.eq_zero_or_pos m with h0 | h0
  · subst h0
    exact ⟨w, run_clear_none I.under ty _ c w, hown, grown_refl w _⟩
  · rcases id hown.2 with ⟨e1, _⟩ | ⟨g', cap', cur, e1, hbg, hg, hnc, hcm, hcs, htake⟩
    · cases e1
    · cases e1
      have hzl : (Builtin.zeroCells z.cells m).toList.length = m * k := by
        rw [Array.length_toList, size_zeroCells, I.many]
      have hfit : ts.length * k + (Builtin.zeroCells z.cells m).toList.length ≤ cur.size := by
        rw [hzl, hcs, ← Nat.add_mul]
        exact Nat.mul_le_mul_right _ hm
      have hone : ∀ u ∈ (Builtin.zeroCells z.cells m).toList, u.oneCell' = true := by
        intro u hu
        simp [Builtin.zeroCells] at hu
        obtain ⟨a, _, rfl⟩ := hu
        have hp : a % z.cells.size < z.cells.size := Nat.mod_lt _ (by rw [I.many]; exact E.pos)
        rw [getElem!_pos z.cells _ hp]
        exact hz1 _ (Array.getElem_mem hp)
      have hs := run_storeCells_at (P := P) g (ts.length * k) e (Builtin.zeroCells z.cells m).toList 0 cur w hg (by simpa using hfit) hone
      simp only [Nat.add_zero] at hs
      refine ⟨w.setRow g (cur.toList.take (ts.length * k) ++ (Builtin.zeroCells z.cells m).toList ++ cur.toList.drop (ts.length * k + (Builtin.zeroCells z.cells m).toList.length)).toArray, ?_, ?_, setRow_grown w g _⟩
      · obtain ⟨m', rfl⟩ : ∃ m', m = m' + 1 := ⟨m - 1, by omega⟩
        simp [Builtin.clear_, run_underlying I.under, zeroValue, typeInfo, hi, hz, hs]
      · refine ⟨hown.1, .inr ⟨g, cap, _, rfl, hbg, setRow_heap w g cur _ e _ hg, hnc, hcm, ?_, ?_⟩⟩
        · have hcl : cur.toList.length = cap * k := by simpa using hcs
          have htk : ts.length * k + m * k ≤ cap * k := by rw [← Nat.add_mul]; exact Nat.mul_le_mul_right _ hm
          rw [hzl]
          simp only [List.size_toArray, List.length_append, List.length_take, List.length_drop, hzl, hcl]
          omega
        · have hcl : cur.toList.length = cap * k := by simpa using hcs
          have htk : ts.length * k ≤ cap * k := Nat.mul_le_mul_right _ (by omega)
          have hlt : (cur.toList.take (ts.length * k)).length = ts.length * k := by
            rw [List.length_take, hcl]
            omega
          rw [List.append_assoc, List.take_left' hlt]
          exact htake
end
end Go.Proofs.Ytloflmkolnediaa

/- An element of a slice of structs that the call owns, stored anew; the first elements of one. -/
namespace Go.Proofs.Ytloflmkolnediaa
set_option linter.unusedVariables false
set_option linter.unusedSimpArgs false
open Go.RowKit Go.Shelf

theorem set_part {β : Type} (c1 c2 e : List β) (A k : Nat) (he : e.length = k) (h : A + k ≤ c1.length) : ((c1 ++ c2).take A ++ e ++ (c1 ++ c2).drop (A + k)).take c1.length = c1.take A ++ e ++ c1.drop (A + k) := by
  rw [List.take_append_of_le_length (l₁ := c1) (l₂ := c2) (i := A) (by omega), List.drop_append_of_le_length h, ← List.append_assoc (c1.take A ++ e), List.take_left' (by simp only [List.length_append, List.length_take, List.length_drop]; omega)]
section
variable {α : Type} {enc : α → List Value} {k : Nat}
theorem Enc.set (E : Enc enc k) (ts : List α) (i : Nat) (t : α) (h : i < ts.length) : (ts.set i t).flatMap enc = (ts.flatMap enc).take (i * k) ++ enc t ++ (ts.flatMap enc).drop (i * k + k) := by
  have hp : i * k + k = (i + 1) * k := by rw [Nat.add_mul]; omega
  rw [List.set_eq_take_append_cons_drop, if_pos h, List.flatMap_append, List.flatMap_cons, hp, E.drop, E.take, List.append_assoc]
/-- The first elements. -/
theorem OwnsT.upto (E : Enc enc k) {w : World} {base e g n cap m : Nat} {ts : List α} (h : OwnsT enc k w base e (.slice (some ⟨g, 0, Option.none⟩) n cap) ts) (hm : m ≤ ts.length) : OwnsT enc k w base e (.slice (some ⟨g, 0, Option.none⟩) m cap) (ts.take m) := by
  rcases h.2 with ⟨e1, _⟩ | ⟨g', cap', cur, e1, hbg, hg, hnc, hcm, hcs, htake⟩
  · cases e1
  · cases e1
    refine ⟨E.flat _, .inr ⟨g, cap, cur, ?_, hbg, hg, ?_, hcm, hcs, ?_⟩⟩
    · rw [List.length_take, Nat.min_eq_left hm]
    · rw [List.length_take]; omega
    · rw [List.length_take, Nat.min_eq_left hm, ← E.take, ← htake, List.take_take, Nat.min_eq_left (Nat.mul_le_mul_right _ hm)]
theorem OwnsT.block {w : World} {base e : Nat} {v : Value} {ts : List α} (h : OwnsT enc k w base e v ts) : (v = .slice Option.none 0 0 ∧ ts = []) ∨ ∃ g cap, v = .slice (some ⟨g, 0, Option.none⟩) ts.length cap ∧ ts.length ≤ cap ∧ base ≤ g ∧ g < w.heap.size := by
  rcases h.2 with ⟨e1, h0⟩ | ⟨g, cap, cur, e1, hbg, hg, hnc, _⟩
  · exact .inl ⟨e1, List.eq_nil_of_length_eq_zero h0⟩
  · exact .inr ⟨g, cap, e1, hnc, hbg, (Array.getElem?_eq_some_iff.1 hg).1⟩
end

section
variable {α : Type} {enc : α → List Value} {k : Nat} {P : Program} {w : World} {o : Oper} {n : Nat} {D : List Deferred} {M : Slots} {T e : TypeId} {z : Value} {bytes : Nat} {r : Option Nat} {ops : Array Oper} {Q : Exit → Act → World → Prop} {rest : List Oper}
theorem LL.storeT {x y : Operand} {t : TypeId} {base g N cap i : Nat} {ts : List α} {u : α} (ho : o.op = .store t x y) (hx : evM M x = some (.pointer (some ⟨g, i * k, none⟩))) (hy : evM M y = some (.agg (enc u).toArray)) (hz : szB P t = some k) (E : Enc enc k)
    (hown : OwnsT enc k w base e (.slice (some ⟨g, 0, none⟩) N cap) ts) (hi : i < ts.length) (hd : o.dst = none) (hg : wantB ops M o.guard = some true)
    (c : ∀ w', OwnsT enc k w' base e (.slice (some ⟨g, 0, none⟩) N cap) (ts.set i u) → w.grownBy w' (some g) → LL r P ops Q n D M rest w') : LL r P ops Q n D M (o :: rest) w := by
  rcases id hown.2 with ⟨e1, _⟩ | ⟨g', cap', cur, e1, hbg, hg', hnc, hcm, hcs, htake⟩
  · cases e1
  · cases e1
    have hrow : RowL w g e cur.toList := hg'
    have hin : i * k + k ≤ ts.length * k := by
      have : (i + 1) * k ≤ ts.length * k := Nat.mul_le_mul_right _ hi
      rw [Nat.add_mul] at this
      omega
    have hcl : cur.toList.length = cap * k := by simpa using hcs
    have hck : ts.length * k ≤ cap * k := Nat.mul_le_mul_right _ hnc
    refine LL.storeN (vs := enc u) ho hx hy (by rw [hz, E.len]) hrow (by rw [E.len]; omega) (E.one u) hd hg ?_
    intro w' r' g' z'
    refine c w' ?_ g'
    refine ⟨E.flat _, .inr ⟨g, cap, _, by rw [List.length_set], hbg, r', by rw [List.length_set]; exact hnc, hcm, ?_, ?_⟩⟩
    · simp only [List.size_toArray, List.length_append, List.length_take, List.length_drop, E.len, hcl]
      omega
    · rw [List.length_set, E.set ts i u hi]
      have hcur : cur.toList = ts.flatMap enc ++ cur.toList.drop (ts.length * k) := by rw [← htake, List.take_append_drop]
      have hfl := E.flat ts
      rw [hcur, E.len, ← hfl]
      exact set_part _ _ _ _ _ (E.len u) (by omega)
end
end Go.Proofs.Ytloflmkolnediaa

/- A field of an element of a slice of structs that the call owns, stored anew. -/
namespace Go.Proofs.Ytloflmkolnediaa
set_option linter.unusedVariables false
set_option linter.unusedSimpArgs false
open Go.RowKit Go.Shelf

section
variable {α : Type} {enc : α → List Value} {k : Nat} {P : Program} {e : TypeId} {r : Option Nat} {ops : Array Oper} {Q : Exit → Act → World → Prop} {rest : List Oper} {w : World} {n : Nat} {D : List Deferred} {M : Slots} {o : Oper}
theorem Enc.setF (E : Enc enc k) (ts : List α) (i c : Nat) (t u : α) (v : Value) (ht : ts[i]? = some t) (hc : c < k) (hu : enc u = (enc t).set c v) : (ts.flatMap enc).set (i * k + c) v = (ts.set i u).flatMap enc := by
  have hi : i < ts.length := (List.getElem?_eq_some_iff.1 ht).1
  have hlen := E.flat ts
  have hin : i * k + k ≤ ts.length * k := by
    have : (i + 1) * k ≤ ts.length * k := Nat.mul_le_mul_right _ hi
    rw [Nat.add_mul] at this
    omega
  have hself : ts.set i t = ts := by
    rw [List.getElem?_eq_getElem hi] at ht
    cases ht
    simp
  have h0 := E.set ts i t hi
  rw [hself] at h0
  have hA : ((ts.flatMap enc).take (i * k)).length = i * k := by rw [List.length_take]; omega
  rw [E.set ts i u hi]
  conv => lhs; rw [h0]
  rw [List.append_assoc, List.set_append_right _ _ (by rw [hA]; omega), hA, show i * k + c - i * k = c by omega, List.set_append_left _ _ (by rw [E.len]; exact hc), ← hu, List.append_assoc]
theorem ownsT_setF {w' : World} (E : Enc enc k) {base g N cap i c : Nat} {ts : List α} {t u : α} {v : Value} (hown : OwnsT enc k w base e (.slice (some ⟨g, 0, none⟩) N cap) ts) (ht : ts[i]? = some t) (hc : c < k) (hu : enc u = (enc t).set c v)
    (hr : ∀ cs, RowL w g e cs → RowL w' g e (cs.set (i * k + c) v)) : OwnsT enc k w' base e (.slice (some ⟨g, 0, none⟩) N cap) (ts.set i u) := by
  rcases id hown.2 with ⟨e1, _⟩ | ⟨g', cap', cur, e1, hbg, hg', hnc, hcm, hcs, htake⟩
  · cases e1
  · cases e1
    have hrow : RowL w g e cur.toList := hg'
    have hi : i < ts.length := (List.getElem?_eq_some_iff.1 ht).1
    have hin : i * k + k ≤ ts.length * k := by
      have : (i + 1) * k ≤ ts.length * k := Nat.mul_le_mul_right _ hi
      rw [Nat.add_mul] at this
      omega
    refine ⟨E.flat _, .inr ⟨g, cap, _, by rw [List.length_set], hbg, hr _ hrow, by rw [List.length_set]; exact hnc, hcm, ?_, ?_⟩⟩
    · simpa using hcs
    · rw [List.length_set, List.take_set, htake, E.setF ts i c t u v ht hc hu]
theorem LL.storeF {x y : Operand} {t : TypeId} {base g off N cap : Nat} {ts : List α} {v : Value} (i c : Nat) (s u : α) (ho : o.op = .store t x y) (hx : evM M x = some (.pointer (some ⟨g, off, none⟩))) (hy : evM M y = some v) (hz : szB P t = some 1) (hoff : off = i * k + c) (E : Enc enc k)
    (hown : OwnsT enc k w base e (.slice (some ⟨g, 0, none⟩) N cap) ts) (hs : ts[i]? = some s) (hc : c < k) (hu : enc u = (enc s).set c v) (h1 : v.oneCell' = true) (hcs : v.cells = #[v]) (hd : o.dst = none) (hg : wantB ops M o.guard = some true)
    (kk : ∀ w', OwnsT enc k w' base e (.slice (some ⟨g, 0, none⟩) N cap) (ts.set i u) → w.grownBy w' (some g) → w'.heap.size = w.heap.size → LL r P ops Q n D M rest w') : LL r P ops Q n D M (o :: rest) w := by
  rcases id hown.2 with ⟨e1, _⟩ | ⟨g', cap', cur, e1, hbg, hg', hnc, hcm, hcs', htake⟩
  · cases e1
  · cases e1
    have hrow : RowL w g e cur.toList := hg'
    have hi : i < ts.length := (List.getElem?_eq_some_iff.1 hs).1
    have hin : i * k + k ≤ ts.length * k := by
      have : (i + 1) * k ≤ ts.length * k := Nat.mul_le_mul_right _ hi
      rw [Nat.add_mul] at this
      omega
    have hck : ts.length * k ≤ cap * k := Nat.mul_le_mul_right _ hnc
    have hcl : cur.toList.length = cap * k := by simpa using hcs'
    subst hoff
    refine LL.store ho hx hy hz hrow (by omega) h1 hcs hd hg ?_
    intro w' r' g' z'
    refine kk w' (ownsT_setF E hown hs hc hu fun cs hcs => ?_) g' z'
    have e2 : cs = cur.toList := by
      have := hcs.symm.trans hrow
      have h2 : cs.toArray = cur := by simpa using this
      rw [← h2]
    rw [e2]
    exact r'
end
end Go.Proofs.Ytloflmkolnediaa

/- What is known of a world, carried over to a later one: .up over what makes memory, .gr over what writes one block. For any seat. -/
namespace Go.Proofs.Ytloflmkolnediaa
set_option linter.unusedVariables false
set_option linter.unusedSimpArgs false
open Go.RowKit Go.Shelf

section
variable {w w' : World} {g e r k : Nat} {xs : List Value} {v : Value} {α : Type} {enc : α → List Value} {ts : List α} {base : Nat}
theorem RowL.up (h : RowL w g e xs) (hb : Below w.heap.size w w') : RowL w' g e xs := h.below hb h.lt
theorem RowL.gr (h : RowL w g e xs) (hg : w.grownBy w' (some r)) (hne : g ≠ r) : RowL w' g e xs := h.same (hg.block g h.lt (by simpa using hne))
theorem Reads.up (h : Reads w v xs) (hb : Below w.heap.size w w') : Reads w' v xs := h.below hb
theorem ReadsT.up (h : ReadsT enc k w v ts) (hb : Below w.heap.size w w') : ReadsT enc k w' v ts := h.below hb
theorem OwnsT.up (h : OwnsT enc k w base e v ts) (hb : Below w.heap.size w w') : OwnsT enc k w' base e v ts := h.below hb
theorem defer_up {E : Nat} (h : w.heap[E]? = some (.deferred (some []))) (hb : Below w.heap.size w w') : w'.heap[E]? = some (.deferred (some [])) := (hb.block E (Array.getElem?_eq_some_iff.1 h).1).trans h
end

/-! Truth values of one cell. -/
def bE (b : Bool) : List Value := [.bool b]
theorem bEnc : Enc bE 1 := ⟨fun _ => rfl, fun t u hu => by
  simp only [bE, List.mem_cons, List.not_mem_nil, or_false] at hu
  subst hu
  rfl, by decide⟩
/-- An element of one cell. -/
theorem ReadsT.one {α : Type} {enc : α → List Value} (E : Enc enc 1) {w : World} {a : Option Addr} {n cap i : Nat} {ts : List α} {t : α} (h : ReadsT enc 1 w (.slice a n cap) ts) (ht : ts[i]? = some t) :
    ∃ b off, a = some ⟨b, off, none⟩ ∧ b < w.heap.size ∧ ∀ u, enc t = [u] → w.cell? ⟨b, off + i, none⟩ = some u := by
  obtain ⟨b, off, ea, hb, hc⟩ := h.get E ht
  refine ⟨b, off, ea, hb, fun u hu => ?_⟩
  have := hc.at (j := 0) (u := u) (by rw [hu]; rfl)
  rwa [Nat.mul_one, Nat.add_zero] at this
end Go.Proofs.Ytloflmkolnediaa

/- What the tool that writes walks (tools/WDev.lean) takes: comparisons that part the walk, regions that draw their order over a world that is named anew, loads of structs. -/
namespace Go.Proofs.Ytloflmkolnediaa
set_option linter.unusedVariables false
set_option linter.unusedSimpArgs false
open Go.RowKit Go.Shelf
section
variable {P : Program} {ops : Array Oper} {w w' : World} {o : Oper} {rest : List Oper} {n : Nat} {D : List Deferred} {M : Slots} {v : Value} {r : Option Nat} {Q : Exit → Act → World → Prop}
theorem LL.vsplit {p : Prop} [Decidable p] (ht : p → Runs P n D M o w (.value (.bool true)) w) (hf : ¬p → Runs P n D M o w (.value (.bool false)) w) (hd : dstB n o.dst = true) (hdf : dfB o.op = false) (hg : wantB ops M o.guard = some true)
    (k1 : p → LL r P ops Q n D (putM M o.dst (.bool true)) rest w) (k2 : ¬p → LL r P ops Q n D (putM M o.dst (.bool false)) rest w) : LL r P ops Q n D M (o :: rest) w := by
  by_cases h : p
  · exact LL.val (ht h) hd hdf hg (k1 h)
  · exact LL.val (hf h) hd hdf hg (k2 h)
theorem SS.vsplit {R : Act → Prop} {p : Prop} [Decidable p] (ht : p → Runs P n D M o w (.value (.bool true)) w) (hf : ¬p → Runs P n D M o w (.value (.bool false)) w) (hd : dstB n o.dst = true) (hg : wantB ops M o.guard = some true)
    (k1 : p → SS P ops w R n D (putM M o.dst (.bool true)) rest) (k2 : ¬p → SS P ops w R n D (putM M o.dst (.bool false)) rest) : SS P ops w R n D M (o :: rest) := by
  by_cases h : p
  · exact SS.val (ht h) hd hg (k1 h)
  · exact SS.val (hf h) hd hg (k2 h)
/-- A region that draws its order and leaves memory alone; the world behind the draw is any one like it. -/
theorem CC.quietB {id : Nat} {l : List Oper} (hm : P.follows .mixedOrders = true) (hB : (Region.lexB .any l.toArray && l.all fun o => !dfB o.op) = true)
    (h : ∀ w1, Below w.heap.size w w1 → w1.heap.size = w.heap.size → SS P l.toArray w1 (fun a => Q .normal a w1) n D M l) : CC r P Q n D M (.region id l.toArray true) w :=
  CC.quiet hm hB (h _ below_drew rfl)
theorem CC.tailB {id : Nat} {l : List Oper} (m : Nat) (hm : P.follows .mixedOrders = true) (hB : (Region.lexTailB .any l.toArray m && l.all fun o => !dfB o.op) = true)
    (h : ∀ w1, Below w.heap.size w w1 → w1.heap.size = w.heap.size → SS P l.toArray w1 (fun a => wpListIn (Wr r) 3 P l.toArray Q (l.drop m) a w1) n D M (l.take m)) : CC r P Q n D M (.region id l.toArray true) w :=
  CC.tail m hm hB (h _ below_drew rfl)
theorem I.ldNc {t : TypeId} {p : Addr} {vs : List Value} (hc : Cells w p vs) (hT : aggB P t = true) (hz : szB P t = some vs.length) : (Instr.loadAt t (.pointer (some p))).run P w = .ok (.agg vs.toArray) w := I.ldN hT hz hc
/-! Calls that tell a truth value. -/
theorem LL.callDT {f : FuncId} {args : Array Value} {p : Prop} [Decidable p] (hr : Runs P n D M o w (.enter f args) w) (hd : dstB n o.dst = true) (hdf : dfB o.op = false) (hg : wantB ops M o.guard = some true) (hc : Calls P f args w fun e w' => e = .returned (.bool (decide p)) ∧ w = w') (h : p)
    (k : LL r P ops Q n D (putM M o.dst (.bool true)) rest w) : LL r P ops Q n D M (o :: rest) w :=
  LL.call hr hd hdf hg hc fun e w' ⟨he, hw⟩ => ⟨_, he, by rw [decide_eq_true h, ← hw]; exact k⟩
theorem LL.callDF {f : FuncId} {args : Array Value} {p : Prop} [Decidable p] (hr : Runs P n D M o w (.enter f args) w) (hd : dstB n o.dst = true) (hdf : dfB o.op = false) (hg : wantB ops M o.guard = some true) (hc : Calls P f args w fun e w' => e = .returned (.bool (decide p)) ∧ w = w') (h : ¬p)
    (k : LL r P ops Q n D (putM M o.dst (.bool false)) rest w) : LL r P ops Q n D M (o :: rest) w :=
  LL.call hr hd hdf hg hc fun e w' ⟨he, hw⟩ => ⟨_, he, by rw [decide_eq_false h, ← hw]; exact k⟩
theorem LL.callD {f : FuncId} {args : Array Value} {p : Prop} [Decidable p] (hr : Runs P n D M o w (.enter f args) w) (hd : dstB n o.dst = true) (hdf : dfB o.op = false) (hg : wantB ops M o.guard = some true) (hc : Calls P f args w fun e w' => e = .returned (.bool (decide p)) ∧ w = w')
    (k1 : p → LL r P ops Q n D (putM M o.dst (.bool true)) rest w) (k2 : ¬p → LL r P ops Q n D (putM M o.dst (.bool false)) rest w) : LL r P ops Q n D M (o :: rest) w := by
  by_cases h : p
  · exact LL.callDT hr hd hdf hg hc h (k1 h)
  · exact LL.callDF hr hd hdf hg hc h (k2 h)
/-- The same, where the call makes memory. -/
theorem LL.callBT {f : FuncId} {args : Array Value} {p : Prop} [Decidable p] (hr : Runs P n D M o w (.enter f args) w) (hd : dstB n o.dst = true) (hdf : dfB o.op = false) (hg : wantB ops M o.guard = some true) (hc : Calls P f args w fun e w' => e = .returned (.bool (decide p)) ∧ Below w.heap.size w w') (h : p)
    (k : ∀ w', Below w.heap.size w w' → LL r P ops Q n D (putM M o.dst (.bool true)) rest w') : LL r P ops Q n D M (o :: rest) w :=
  LL.call hr hd hdf hg hc fun e w' ⟨he, hw⟩ => ⟨_, he, by rw [decide_eq_true h]; exact k w' hw⟩
theorem LL.callBF {f : FuncId} {args : Array Value} {p : Prop} [Decidable p] (hr : Runs P n D M o w (.enter f args) w) (hd : dstB n o.dst = true) (hdf : dfB o.op = false) (hg : wantB ops M o.guard = some true) (hc : Calls P f args w fun e w' => e = .returned (.bool (decide p)) ∧ Below w.heap.size w w') (h : ¬p)
    (k : ∀ w', Below w.heap.size w w' → LL r P ops Q n D (putM M o.dst (.bool false)) rest w') : LL r P ops Q n D M (o :: rest) w :=
  LL.call hr hd hdf hg hc fun e w' ⟨he, hw⟩ => ⟨_, he, by rw [decide_eq_false h]; exact k w' hw⟩
theorem LL.callB {f : FuncId} {args : Array Value} {p : Prop} [Decidable p] (hr : Runs P n D M o w (.enter f args) w) (hd : dstB n o.dst = true) (hdf : dfB o.op = false) (hg : wantB ops M o.guard = some true) (hc : Calls P f args w fun e w' => e = .returned (.bool (decide p)) ∧ Below w.heap.size w w')
    (k1 : p → ∀ w', Below w.heap.size w w' → LL r P ops Q n D (putM M o.dst (.bool true)) rest w') (k2 : ¬p → ∀ w', Below w.heap.size w w' → LL r P ops Q n D (putM M o.dst (.bool false)) rest w') : LL r P ops Q n D M (o :: rest) w := by
  by_cases h : p
  · exact LL.callBT hr hd hdf hg hc h (k1 h)
  · exact LL.callBF hr hd hdf hg hc h (k2 h)
theorem SS.callDT {R : Act → Prop} {f : FuncId} {args : Array Value} {p : Prop} [Decidable p] (hr : Runs P n D M o w (.enter f args) w) (hd : dstB n o.dst = true) (hg : wantB ops M o.guard = some true) (hc : Calls P f args w fun e w' => e = .returned (.bool (decide p)) ∧ w = w') (h : p)
    (k : SS P ops w R n D (putM M o.dst (.bool true)) rest) : SS P ops w R n D M (o :: rest) := by
  rw [decide_eq_true h] at hc
  exact SS.call hr hd hg hc k
theorem SS.callDF {R : Act → Prop} {f : FuncId} {args : Array Value} {p : Prop} [Decidable p] (hr : Runs P n D M o w (.enter f args) w) (hd : dstB n o.dst = true) (hg : wantB ops M o.guard = some true) (hc : Calls P f args w fun e w' => e = .returned (.bool (decide p)) ∧ w = w') (h : ¬p)
    (k : SS P ops w R n D (putM M o.dst (.bool false)) rest) : SS P ops w R n D M (o :: rest) := by
  rw [decide_eq_false h] at hc
  exact SS.call hr hd hg hc k
theorem SS.callD {R : Act → Prop} {f : FuncId} {args : Array Value} {p : Prop} [Decidable p] (hr : Runs P n D M o w (.enter f args) w) (hd : dstB n o.dst = true) (hg : wantB ops M o.guard = some true) (hc : Calls P f args w fun e w' => e = .returned (.bool (decide p)) ∧ w = w')
    (k1 : p → SS P ops w R n D (putM M o.dst (.bool true)) rest) (k2 : ¬p → SS P ops w R n D (putM M o.dst (.bool false)) rest) : SS P ops w R n D M (o :: rest) := by
  by_cases h : p
  · exact SS.callDT hr hd hg hc h (k1 h)
  · exact SS.callDF hr hd hg hc h (k2 h)
theorem R.addIz {x y : Operand} {t u : TypeId} {a b z : Int} (ho : o.op = .binOp .add t x y u) (hx : evM M x = some (.int .i64 a)) (hy : evM M y = some (.int .i64 b)) (e : a + b = z) (h : -9223372036854775808 ≤ z ∧ z ≤ 9223372036854775807) : Runs P n D M o w (.value (.int .i64 z)) w := by subst e; exact R.addI ho hx hy h
theorem R.subIz {x y : Operand} {t u : TypeId} {a b z : Int} (ho : o.op = .binOp .sub t x y u) (hx : evM M x = some (.int .i64 a)) (hy : evM M y = some (.int .i64 b)) (e : a - b = z) (h : -9223372036854775808 ≤ z ∧ z ≤ 9223372036854775807) : Runs P n D M o w (.value (.int .i64 z)) w := by subst e; exact R.subI ho hx hy h
theorem R.mulIz {x y : Operand} {t u : TypeId} {a b z : Int} (ho : o.op = .binOp .mul t x y u) (hx : evM M x = some (.int .i64 a)) (hy : evM M y = some (.int .i64 b)) (e : a * b = z) (h : -9223372036854775808 ≤ z ∧ z ≤ 9223372036854775807) : Runs P n D M o w (.value (.int .i64 z)) w := by subst e; exact R.mulI ho hx hy h
theorem R.remIc {x y : Operand} {t u : TypeId} {a : Int} {b : Nat} (hlit : Nat.ble b 18446744073709551616 = true) (ho : o.op = .binOp .rem t x y u) (hx : evM M x = some (.int .i64 a)) (hy : evM M y = some (.int .i64 (@OfNat.ofNat Int b instOfNat))) (h0 : 0 ≤ a) (h : 0 < (@OfNat.ofNat Nat b (instOfNatNat b))) : Runs P n D M o w (.value (.int .i64 (a % (@OfNat.ofNat Int b instOfNat)))) w := by
  obtain ⟨m, rfl⟩ := Int.eq_ofNat_of_zero_le h0
  exact R.remNc hlit ho hx hy h
theorem R.quoIc {x y : Operand} {t u : TypeId} {a : Int} {b : Nat} (hlit : Nat.ble b 18446744073709551616 = true) (ho : o.op = .binOp .quo t x y u) (hx : evM M x = some (.int .i64 a)) (hy : evM M y = some (.int .i64 (@OfNat.ofNat Int b instOfNat))) (h0 : 0 ≤ a) (h : 0 < (@OfNat.ofNat Nat b (instOfNatNat b))) (h2 : a ≤ 9223372036854775807) : Runs P n D M o w (.value (.int .i64 (a / (@OfNat.ofNat Int b instOfNat)))) w := by
  obtain ⟨m, rfl⟩ := Int.eq_ofNat_of_zero_le h0
  exact R.quoNc hlit ho hx hy h (by omega)
theorem R.fieldC {t : TypeId} {x : Operand} {i : Nat} {vx : Value} (ho : o.op = .field t x i) (hx : evM M x = some vx) (hr : ∀ w, (Instr.field t vx i).run P w = .ok v w) : Runs P n D M o w (.value v) w := R.fieldV ho hx (hr w)
theorem lvNc {t : TypeId} {p : Addr} {vs : List Value} (hc : Cells w p vs) (hT : aggB P t = true) (hz : szB P t = some vs.length) : (loadVar t p).run P w = .ok (.agg vs.toArray) w := lvN hT hz hc
theorem RowL.cells0 {g e : Nat} {xs : List Value} (h : RowL w g e xs) : Cells w ⟨g, 0, none⟩ xs := h.cells (by simp)
theorem ones_of {vs : List Value} (h : (vs.all fun u => u.oneCell') = true) : ∀ u ∈ vs, u.oneCell' = true := List.all_eq_true.1 h
theorem wrapI {m : Int} (h1 : -9223372036854775808 ≤ m) (h2 : m ≤ 9223372036854775807) : IntKind.i64.wrap m = m := by
  simp [IntKind.wrap, IntKind.bits, IntKind.signed]
  omega
theorem wrapU {m : Int} (h1 : 0 ≤ m) (h2 : m ≤ 18446744073709551615) : IntKind.u64.wrap m = m := by
  simp [IntKind.wrap, IntKind.bits, IntKind.signed]
  omega
theorem wrapB {m : Int} (h1 : 0 ≤ m) (h2 : m ≤ 255) : IntKind.u8.wrap m = m := by
  simp [IntKind.wrap, IntKind.bits, IntKind.signed]
  omega
theorem below_of_size {B : Nat} (h : Below w.heap.size w w') (hb : B ≤ w.heap.size) : Below B w w' := h.mono hb
end
end Go.Proofs.Ytloflmkolnediaa

/- Regions that draw their order, whose steps yield the same values in whatever world that is left as it is but for new memory: one walk for all orders, calls that make memory of their own among them. Over any program. -/
namespace Go.Proofs.Ytloflmkolnediaa
set_option linter.unusedVariables false
set_option linter.unusedSimpArgs false
open Go.RowKit Go.Shelf

section
variable {P : Program} {ops : Array Oper} {Q : Exit → Act → World → Prop} {ok : World → Prop} {r : Option Nat} {v : Value} {o : Oper}

/-- It yields v in all these worlds, and leaves one of them. -/
def YG (P : Program) (ops : Array Oper) (ok : World → Prop) (o : Oper) (v : Value) (a : Act) : Prop :=
  (Region.wanted o (yielded ops a.tmps) = true ∧ ∀ w, ok w → (execOp a.eval o).run P w = .ok (.value v) w ∨ ∃ f args, (execOp a.eval o).run P w = .ok (.enter f args) w ∧ Calls P f args w (fun e w' => e = .returned v ∧ ok w')) ∨
  (Region.wanted o (yielded ops a.tmps) = false ∧ v = undef)
def stG (P : Program) (ops : Array Oper) (ok : World → Prop) (i : Nat) (K : Act → Prop) (a : Act) : Prop :=
  match ops[i]? with
  | none => K a
  | some o => ∃ v, YG P ops ok o v a ∧ K (a.put o.dst v)
theorem stG_mono {i : Nat} {K K' : Act → Prop} {a : Act} (h : ∀ a, K a → K' a) (hh : stG P ops ok i K a) : stG P ops ok i K' a := by
  unfold stG at *
  split
  · rename_i ho; simp only [ho] at hh; exact h _ hh
  · rename_i o ho; simp only [ho] at hh; obtain ⟨v, h1, h2⟩ := hh; exact ⟨v, h1, h _ h2⟩
theorem YG.same {a a' : Act} (hy : YG P ops ok o v a) (he : execOp a'.eval o = execOp a.eval o) (hw : Region.wanted o (yielded ops a'.tmps) = Region.wanted o (yielded ops a.tmps)) : YG P ops ok o v a' := by
  unfold YG at *
  rw [he, hw]
  exact hy
theorem stG_put {j : Nat} {oi oj : Oper} {a : Act} (hj : ops[j]? = some oj) (hap : oi.apart ops oj = true) (hsi : ∀ cs b, oi.op ≠ .select cs b) (hsj : ∀ cs b, oj.op ≠ .select cs b) {K : Act → Prop}
    (hy : YG P ops ok oi v a) (h : stG P ops ok j K (a.put oi.dst v)) : stG P ops ok j (fun a' => YG P ops ok oi v a' ∧ K (a'.put oi.dst v)) a := by
  obtain ⟨h1, h2, h3⟩ := Oper.apart_spec hap
  unfold stG at *
  simp only [hj] at *
  obtain ⟨u, e1, e2⟩ := h
  exact ⟨u, e1.same (execOp_put oj hsj a oi.dst v h1).symm (wanted_put oj a oi.dst v h1).symm, hy.same (execOp_put oi hsi a oj.dst u h3) (wanted_put oi a oj.dst u h3), by rw [← Act.put_comm a v u h2]; exact e2⟩
theorem wpIn_of_YG {a : Act} {w : World} {K : Act → World → Prop} (hdf : dfB o.op = false) (hw : ok w) (hwt : Region.wanted o (yielded ops a.tmps) = true) (hy : YG P ops ok o v a) (hk : ∀ w', ok w' → K (a.put o.dst v) w') : o.wpIn (Wr r) 3 P a w K Q := by
  rcases hy with ⟨_, hv⟩ | ⟨h, _⟩
  · rcases hv w hw with h1 | ⟨f, args, h1, hc⟩
    · exact wpIn_of_run hdf h1 (hk w hw)
    · exact wpIn_of_run hdf h1 ⟨fun h => (by cases h), callsWr (hc.mono fun e w' ⟨he, hw'⟩ => by subst he; exact hk w' hw')⟩
  · rw [hwt] at h; cases h
theorem wpOpIn_of_stG {i : Nat} {a : Act} {w : World} {K : Act → Prop} {K' : Act → World → Prop} (hdf : ∀ (j : Nat) (o : Oper), ops[j]? = some o → dfB o.op = false) (hw : ok w) (h : ∀ a w, ok w → K a → K' a w) (hh : stG P ops ok i K a) : wpOpIn (Wr r) 3 P ops Q i K' a w := by
  unfold stG at hh
  unfold wpOpIn
  split
  · rename_i ho; simp only [ho] at hh; exact h _ _ hw hh
  · rename_i o ho
    simp only [ho] at hh
    obtain ⟨v, hy, hk⟩ := hh
    split
    · rename_i hwt; exact wpIn_of_YG (hdf _ _ ho) hw hwt hy fun w' hw' => h _ _ hw' hk
    · rename_i hwt
      rcases hy with ⟨h1, _⟩ | ⟨_, rfl⟩
      · exact absurd h1 hwt
      · exact ⟨about_wr a, h _ _ hw hk⟩
/-- All orders, all steps. -/
def AnyG (P : Program) (ops : Array Oper) (ok : World → Prop) (K : Act → Prop) : Nat → Array Bool → Act → Prop
  | 0, listed, a => Region.ready .any ops listed = [] ∧ K a
  | f + 1, listed, a => (Region.ready .any ops listed = [] → K a) ∧ ∀ i ∈ Region.ready .any ops listed, stG P ops ok i (AnyG P ops ok K f (listed.setIfInBounds i true)) a
theorem YG.stG {i : Nat} {a : Act} {K : Act → Prop} (hi : ops[i]? = some o) (hy : YG P ops ok o v a) (h : K (a.put o.dst v)) : stG P ops ok i K a := by
  unfold Proofs.Ytloflmkolnediaa.stG
  simp only [hi]
  exact ⟨v, hy, h⟩
theorem AnyG_first {i : Nat} {oi : Oper} {K : Act → Prop} (hi : ops[i]? = some oi) (hsel : ∀ (j : Nat) (o : Oper) cs b, ops[j]? = some o → o.op ≠ .select cs b) :
    ∀ (f : Nat) (listed : Array Bool) (a : Act),
      (∀ j oj, ops[j]? = some oj → j ≠ i → listed.getD j true = false → (∀ e ∈ oj.after, Region.binds .any e = true → e.on ≠ i) → oi.apart ops oj = true) →
      i ∈ Region.ready .any ops listed → YG P ops ok oi v a → AnyG P ops ok K f (listed.setIfInBounds i true) (a.put oi.dst v) → AnyG P ops ok K (f + 1) listed a := by
  intro f
  induction f with
  | zero =>
    intro listed a _ hr hy H
    refine ⟨fun h => (by rw [h] at hr; cases hr), fun j hj => ?_⟩
    by_cases hji : j = i
    · subst hji; exact hy.stG hi H
    · have := ready_mono hj hji
      rw [H.1] at this
      cases this
  | succ f ih =>
    intro listed a hfree hr hy H
    refine ⟨fun h => (by rw [h] at hr; cases hr), fun j hj => ?_⟩
    by_cases hji : j = i
    · subst hji; exact hy.stG hi H
    · have h1 := H.2 j (ready_mono hj hji)
      obtain ⟨hjun, oj, hoj, hall⟩ := mem_ready.1 hj
      have hnot : ∀ e ∈ oj.after, Region.binds .any e = true → e.on ≠ i := fun e he hb heq => by
        have h1 := hall e he hb
        rw [heq, getD_both (mem_ready.1 hr).1] at h1
        cases h1
      have h2 := stG_put hoj (hfree j oj hoj hji hjun hnot) (fun cs b => hsel i oi cs b hi) (fun cs b => hsel j oj cs b hoj) hy h1
      have hfree' : ∀ k ok', ops[k]? = some ok' → k ≠ i → (listed.setIfInBounds j true).getD k true = false →
          (∀ e ∈ ok'.after, Region.binds .any e = true → e.on ≠ i) → oi.apart ops ok' = true := fun k ok' hk hki hun hno => by
        refine hfree k ok' hk hki ?_ hno
        by_cases hjk : j = k
        · subst hjk; exact hjun
        · rw [getD_set_ne true hjk] at hun; exact hun
      refine stG_mono (fun a' h3 => ih (listed.setIfInBounds j true) a' hfree' (ready_mono hr (Ne.symm hji)) h3.1 ?_) h2
      rw [Array.setIfInBounds_comm _ _ hji]
      exact h3.2
/-- One walk, in the order of the text. -/
def walkG (P : Program) (ops : Array Oper) (ok : World → Prop) (K : Act → Prop) : List Oper → Act → Prop
  | [], a => K a
  | o :: l, a => ∃ v, YG P ops ok o v a ∧ walkG P ops ok K l (a.put o.dst v)
theorem AnyG_lex {K : Act → Prop} (hs : Region.noSelect ops = true) : ∀ (l : List Oper) (k : Nat) (listed : Array Bool) (a : Act), (∀ j, l[j]? = ops[k + j]?) →
    Region.lexFrom .any ops l.length k listed = true → walkG P ops ok K l a → AnyG P ops ok K l.length listed a
  | [], _, _, _, _, hB, h => ⟨by simpa [Region.lexFrom] using hB, h⟩
  | o :: l, k, listed, a, hl, hB, h => by
    have h0 : ops[k]? = some o := by simpa using (hl 0).symm
    simp only [List.length_cons, Region.lexFrom, Bool.and_eq_true] at hB
    obtain ⟨⟨hr, hf⟩, hB'⟩ := hB
    obtain ⟨v, hy, hK⟩ := h
    exact AnyG_first h0 (Region.noSelect_spec hs) l.length listed a (Region.free_spec h0 hf) (by simpa using hr) hy
      (AnyG_lex hs l (k + 1) _ _ (fun j => by have := hl (j + 1); simpa [Nat.add_assoc, Nat.add_comm 1 j] using this) hB' hK)
theorem wpAnyIn_of_AnyG {K : Act → Prop} (hdf : ∀ (j : Nat) (o : Oper), ops[j]? = some o → dfB o.op = false) (hQ : ∀ a w, ok w → K a → Q .normal a w) : ∀ (f : Nat) (listed : Array Bool) (a : Act) (w : World),
    ok w → AnyG P ops ok K f listed a → wpAnyIn (Wr r) 3 P .any ops Q f listed a w
  | 0, _, _, _, hw, h => ⟨h.1, hQ _ _ hw h.2⟩
  | f + 1, listed, a, w, hw, h => ⟨fun h0 => hQ _ _ hw (h.1 h0), fun i hi => wpOpIn_of_stG hdf hw (fun a' w' hw' h' => wpAnyIn_of_AnyG hdf hQ f _ a' w' hw' h') (h.2 i hi)⟩
/-- The same with a tail that follows in one order. -/
def HeadG (P : Program) (ops : Array Oper) (ok : World → Prop) (n : Nat) (L : Array Bool → Act → Prop) : Nat → Array Bool → Act → Prop
  | 0, listed, a => L listed a
  | f + 1, listed, a => Region.ready .any ops listed ≠ [] ∧ ∀ i ∈ Region.ready .any ops listed, i < n ∧ stG P ops ok i (HeadG P ops ok n L f (listed.setIfInBounds i true)) a
theorem HeadG_first {n i : Nat} {oi : Oper} {L : Array Bool → Act → Prop} (hi : ops[i]? = some oi) (hsel : ∀ (j : Nat) (o : Oper) cs b, ops[j]? = some o → o.op ≠ .select cs b)
    (hs : Region.sinkB .any ops n = true) (hc : Region.chainB .any ops n = true) (hn : n < ops.size) (hin : i < n)
    (hdone : ∀ listed a, L listed a → ∀ j ∈ Region.ready .any ops listed, n ≤ j) :
    ∀ (f : Nat) (listed : Array Bool) (a : Act), HeadInv .any ops n listed →
      (∀ j oj, ops[j]? = some oj → j ≠ i → listed.getD j true = false → (∀ e ∈ oj.after, Region.binds .any e = true → e.on ≠ i) → oi.apart ops oj = true) →
      i ∈ Region.ready .any ops listed → YG P ops ok oi v a →
      HeadG P ops ok n L f (listed.setIfInBounds i true) (a.put oi.dst v) → HeadG P ops ok n L (f + 1) listed a := by
  intro f
  induction f with
  | zero =>
    intro listed a inv _ hr hy H
    have hun := (mem_ready.1 hr).1
    refine ⟨fun h => (by rw [h] at hr; cases hr), fun j hj => ?_⟩
    have hjn : j < n := by
      rcases Nat.lt_or_ge j n with h | h
      · exact h
      · exact absurd hj (tail_waits hs hc hn inv _ i rfl hin hun j h)
    refine ⟨hjn, ?_⟩
    by_cases hji : j = i
    · subst hji; exact hy.stG hi H
    · have := hdone _ _ H j (ready_mono hj hji)
      omega
  | succ f ih =>
    intro listed a inv hfree hr hy H
    have hun := (mem_ready.1 hr).1
    refine ⟨fun h => (by rw [h] at hr; cases hr), fun j hj => ?_⟩
    have hjn : j < n := by
      rcases Nat.lt_or_ge j n with h | h
      · exact h
      · exact absurd hj (tail_waits hs hc hn inv _ i rfl hin hun j h)
    refine ⟨hjn, ?_⟩
    by_cases hji : j = i
    · subst hji; exact hy.stG hi H
    · have h1 := (H.2 j (ready_mono hj hji)).2
      obtain ⟨hjun, oj, hoj, hall⟩ := mem_ready.1 hj
      have hnot : ∀ e ∈ oj.after, Region.binds .any e = true → e.on ≠ i := fun e he hb heq => by
        have h1 := hall e he hb
        rw [heq, getD_both hun] at h1
        cases h1
      have h2 := stG_put hoj (hfree j oj hoj hji hjun hnot) (fun cs b => hsel i oi cs b hi) (fun cs b => hsel j oj cs b hoj) hy h1
      have hfree' : ∀ k ok', ops[k]? = some ok' → k ≠ i → (listed.setIfInBounds j true).getD k true = false →
          (∀ e ∈ ok'.after, Region.binds .any e = true → e.on ≠ i) → oi.apart ops ok' = true := fun k ok' hk hki hun hno => by
        refine hfree k ok' hk hki ?_ hno
        by_cases hjk : j = k
        · subst hjk; exact hjun
        · rw [getD_set_ne true hjk] at hun; exact hun
      refine stG_mono (fun a' h3 => ih (listed.setIfInBounds j true) a' (inv.set hj hjn) hfree' (ready_mono hr (Ne.symm hji)) h3.1 ?_) h2
      rw [Array.setIfInBounds_comm _ _ hji]
      exact h3.2
theorem HeadG_lex {n g : Nat} {Lq : Act → Prop} (hsel : Region.noSelect ops = true) (hs : Region.sinkB .any ops n = true) (hc : Region.chainB .any ops n = true) (hn : n < ops.size) :
    ∀ (l : List Oper) (k : Nat) (listed : Array Bool) (a : Act), (∀ j, j < l.length → l[j]? = ops[k + j]?) → k + l.length = n → HeadInv .any ops n listed →
    Region.lexHead .any ops g l.length k listed = true → walkG P ops ok Lq l a →
    HeadG P ops ok n (fun listed' a' => Region.seqB .any ops g n listed' = true ∧ Lq a') l.length listed a
  | [], k, listed, a, _, hk, _, hB, h => by
    have : k = n := by simpa using hk
    subst this
    exact ⟨by simpa [Region.lexHead] using hB, h⟩
  | o :: l, k, listed, a, hl, hk, inv, hB, h => by
    have h0 : ops[k]? = some o := by simpa using (hl 0 (by simp)).symm
    simp only [List.length_cons, Region.lexHead, Bool.and_eq_true] at hB
    obtain ⟨⟨hr, hf⟩, hB'⟩ := hB
    have hkn : k < n := by simp only [List.length_cons] at hk; omega
    have hr' : k ∈ Region.ready .any ops listed := by simpa using hr
    obtain ⟨v, hy, hK⟩ := h
    exact HeadG_first h0 (Region.noSelect_spec hsel) hs hc hn hkn (fun listed' a' hL => seqB_ready hL.1) l.length listed a inv (Region.free_spec h0 hf) hr' hy
      (HeadG_lex hsel hs hc hn l (k + 1) _ _ (fun j hj => by have := hl (j + 1) (by simp; omega); simpa [Nat.add_assoc, Nat.add_comm 1 j] using this) (by simp only [List.length_cons] at hk; omega) (inv.set hr' hkn) hB' hK)
theorem wpAnyIn_of_HeadG {n g : Nat} {L : Array Bool → Act → Prop} (hdf : ∀ (j : Nat) (o : Oper), ops[j]? = some o → dfB o.op = false) (hL : ∀ listed a w, ok w → L listed a → wpAnyIn (Wr r) 3 P .any ops Q g listed a w) :
    ∀ (f : Nat) (listed : Array Bool) (a : Act) (w : World), ok w → HeadG P ops ok n L f listed a → wpAnyIn (Wr r) 3 P .any ops Q (f + g) listed a w
  | 0, listed, a, w, hw, h => by rw [Nat.zero_add]; exact hL _ _ _ hw h
  | f + 1, listed, a, w, hw, h => by
    rw [show f + 1 + g = (f + g) + 1 by omega]
    exact ⟨fun h0 => absurd h0 h.1, fun i hi => wpOpIn_of_stG hdf hw (fun a' w' hw' h' => wpAnyIn_of_HeadG hdf hL f _ a' w' hw' h') (h.2 i hi).2⟩

/-! Goals. -/
structure GG (P : Program) (ops : Array Oper) (ok : World → Prop) (K : Act → Prop) (n : Nat) (D : List Deferred) (M : Slots) (l : List Oper) : Prop where
  h : ∀ a, Fr n D M a → walkG P ops ok K l a
variable {n : Nat} {D : List Deferred} {M : Slots} {rest l : List Oper} {K : Act → Prop} {w : World}
theorem GG.val (hr : ∀ w, ok w → Runs P n D M o w (.value v) w) (hd : dstB n o.dst = true) (hg : wantB ops M o.guard = some true) (k : GG P ops ok K n D (putM M o.dst v) rest) : GG P ops ok K n D M (o :: rest) := GG.mk fun a F =>
  ⟨v, .inl ⟨F.want hg, fun w hw => .inl (hr w hw a F)⟩, k.h _ (F.put _ _ hd)⟩
theorem GG.skip (hd : dstB n o.dst = true) (hg : wantB ops M o.guard = some false) (k : GG P ops ok K n D (putM M o.dst undef) rest) : GG P ops ok K n D M (o :: rest) := GG.mk fun a F =>
  ⟨undef, .inr ⟨F.want hg, rfl⟩, k.h _ (F.put _ _ hd)⟩
theorem GG.call {f : FuncId} {args : Array Value} (hr : ∀ w, Runs P n D M o w (.enter f args) w) (hd : dstB n o.dst = true) (hg : wantB ops M o.guard = some true) (hc : ∀ w, ok w → Calls P f args w fun e w' => e = .returned v ∧ ok w') (k : GG P ops ok K n D (putM M o.dst v) rest) : GG P ops ok K n D M (o :: rest) := GG.mk fun a F =>
  ⟨v, .inl ⟨F.want hg, fun w hw => .inr ⟨f, args, hr w a F, hc w hw⟩⟩, k.h _ (F.put _ _ hd)⟩
theorem GG.vsplit {p : Prop} [Decidable p] (ht : p → ∀ w, ok w → Runs P n D M o w (.value (.bool true)) w) (hf : ¬p → ∀ w, ok w → Runs P n D M o w (.value (.bool false)) w) (hd : dstB n o.dst = true) (hg : wantB ops M o.guard = some true)
    (k1 : p → GG P ops ok K n D (putM M o.dst (.bool true)) rest) (k2 : ¬p → GG P ops ok K n D (putM M o.dst (.bool false)) rest) : GG P ops ok K n D M (o :: rest) := by
  by_cases h : p
  · exact GG.val (ht h) hd hg (k1 h)
  · exact GG.val (hf h) hd hg (k2 h)
theorem GG.callDT {f : FuncId} {args : Array Value} {p : Prop} [Decidable p] (hr : ∀ w, Runs P n D M o w (.enter f args) w) (hd : dstB n o.dst = true) (hg : wantB ops M o.guard = some true) (hc : ∀ w, ok w → Calls P f args w fun e w' => e = .returned (.bool (decide p)) ∧ ok w') (h : p) (k : GG P ops ok K n D (putM M o.dst (.bool true)) rest) : GG P ops ok K n D M (o :: rest) := by
  simp only [decide_eq_true h] at hc
  exact GG.call hr hd hg hc k
theorem GG.callDF {f : FuncId} {args : Array Value} {p : Prop} [Decidable p] (hr : ∀ w, Runs P n D M o w (.enter f args) w) (hd : dstB n o.dst = true) (hg : wantB ops M o.guard = some true) (hc : ∀ w, ok w → Calls P f args w fun e w' => e = .returned (.bool (decide p)) ∧ ok w') (h : ¬p) (k : GG P ops ok K n D (putM M o.dst (.bool false)) rest) : GG P ops ok K n D M (o :: rest) := by
  simp only [decide_eq_false h] at hc
  exact GG.call hr hd hg hc k
theorem GG.callD {f : FuncId} {args : Array Value} {p : Prop} [Decidable p] (hr : ∀ w, Runs P n D M o w (.enter f args) w) (hd : dstB n o.dst = true) (hg : wantB ops M o.guard = some true) (hc : ∀ w, ok w → Calls P f args w fun e w' => e = .returned (.bool (decide p)) ∧ ok w') (k1 : p → GG P ops ok K n D (putM M o.dst (.bool true)) rest) (k2 : ¬p → GG P ops ok K n D (putM M o.dst (.bool false)) rest) : GG P ops ok K n D M (o :: rest) := by
  by_cases h : p
  · exact GG.callDT hr hd hg hc h (k1 h)
  · exact GG.callDF hr hd hg hc h (k2 h)
theorem GG.nil (k : ∀ w, ok w → LL r P ops Q n D M l w) : GG P ops ok (fun a => ∀ w, ok w → wpListIn (Wr r) 3 P ops Q l a w) n D M [] := GG.mk fun a F w hw => (k w hw).h a F
theorem GG.nilQ (k : ∀ w, ok w → EE Q n D M .normal w) : GG P ops ok (fun a => ∀ w, ok w → Q .normal a w) n D M [] := GG.mk fun a F w hw => (k w hw).h a F
theorem GG.keep (L : List (Nat × Value)) (hL : Fits M L) (h : GG P ops ok K n D (sl L) rest) : GG P ops ok K n D M rest := GG.mk fun a F => h.h a (F.keep L hL)
/-- Where all yield the same, whatever new memory there is. -/
theorem CC.grow {id : Nat} (hm : P.follows .mixedOrders = true) (hB : (Region.lexB .any l.toArray && l.all fun o => !dfB o.op) = true)
    (h : GG P l.toArray (fun W => Below w.heap.size w W) (fun a => ∀ W, Below w.heap.size w W → Q .normal a W) n D M l) : CC r P Q n D M (.region id l.toArray true) w := CC.mk fun a F => by
  rw [Bool.and_eq_true] at hB
  obtain ⟨hB, hdf0⟩ := hB
  have hdf : ∀ (j : Nat) o, l.toArray[j]? = some o → dfB o.op = false := fun j o ho => by
    have := List.all_eq_true.1 hdf0 o (by simpa using List.mem_of_getElem? (by simpa using ho))
    simpa using this
  simp only [Region.lexB, Bool.and_eq_true] at hB
  refine wpIn_region_any hm (wpAnyIn_of_AnyG (ok := fun W => Below w.heap.size w W) (K := fun a' => ∀ W, Below w.heap.size w W → Q .normal a' W) hdf (fun _ _ hw h => h _ hw) _ _ _ _ below_drew ?_)
  have := AnyG_lex (P := P) hB.1 l 0 (Array.replicate l.toArray.size false) a (by simp) (by simpa using hB.2) (h.h a F)
  simpa using this
theorem CC.growT {id : Nat} (m : Nat) (hm : P.follows .mixedOrders = true) (hB : (Region.lexTailB .any l.toArray m && l.all fun o => !dfB o.op) = true)
    (h : GG P l.toArray (fun W => Below w.heap.size w W) (fun a => ∀ W, Below w.heap.size w W → wpListIn (Wr r) 3 P l.toArray Q (l.drop m) a W) n D M (l.take m)) : CC r P Q n D M (.region id l.toArray true) w := CC.mk fun a F => by
  rw [Bool.and_eq_true] at hB
  obtain ⟨hB, hdf0⟩ := hB
  have hdf : ∀ (j : Nat) o, l.toArray[j]? = some o → dfB o.op = false := fun j o ho => by
    have := List.all_eq_true.1 hdf0 o (by simpa using List.mem_of_getElem? (by simpa using ho))
    simpa using this
  have h := h.h a F
  simp only [Region.lexTailB, Bool.and_eq_true, decide_eq_true_eq] at hB
  obtain ⟨⟨⟨⟨hsel, hn⟩, hs⟩, hc⟩, hlex⟩ := hB
  have hn' : m < l.length := by simpa using hn
  have htl : (l.take m).length = m := by simp; omega
  have hdl : (l.drop m).length = l.toArray.size - m := by simp
  have inv0 : HeadInv .any l.toArray m (Array.replicate l.toArray.size false) :=
    ⟨by simp, fun j oj _ hl => (by rw [getD_replicate_false] at hl; cases hl), fun t _ ht => getD_in (by simpa using ht) (getD_replicate_false _ _)⟩
  have H := HeadG_lex (P := P) (g := l.toArray.size - m) hsel hs hc hn (l.take m) 0 _ a (fun j hj => by
    have hj' : j < m := by rw [htl] at hj; exact hj
    simp [hj']) (by simpa using htl) inv0 (by rw [htl]; exact hlex) h
  refine wpIn_region_any hm ?_
  have := wpAnyIn_of_HeadG (ok := fun W => Below w.heap.size w W) (r := r) (Q := Q) (g := l.toArray.size - m) hdf (fun listed a' w' hw' hL => by
    have := wpAnyIn_of_seq (r := r) (md := .any) (Q := Q) (l.drop m) m listed a' w' (fun j => by simp [List.getElem?_drop]) (by rw [hdl]; exact hL.1) (hL.2 w' hw')
    rwa [hdl] at this) _ _ _ w.drew below_drew H
  rw [htl, show m + (l.toArray.size - m) = l.toArray.size by omega] at this
  exact this
end
end Go.Proofs.Ytloflmkolnediaa

/- What the tool that writes walks takes in regions that draw their order and make memory: steps in any order. Over any program. -/
namespace Go.Proofs.Ytloflmkolnediaa
set_option linter.unusedVariables false
set_option linter.unusedSimpArgs false
open Go.RowKit Go.Shelf
section
variable {P : Program} {ops : Array Oper} {l : List Oper} {w w' : World} {o : Oper} {n i f : Nat} {D : List Deferred} {M : Slots} {v : Value} {r : Option Nat} {Q : Exit → Act → World → Prop} {ok : World → Prop} {listed : Array Bool} {t : TypeId} {x y : Operand} {K : Slots → World → Prop}
theorem CC.freeZ {id : Nat} (K : World → Nat → Prop) (hm : P.follows .mixedOrders = true) (hB : selB l = true)
    (h : ∀ w1, Below w.heap.size w w1 → w1.heap.size = w.heap.size → AA P l.toArray (fun W => Kept (K w1) w1 W) Q n D M l.length (Array.replicate l.length false) w1) : CC r P Q n D M (.region id l.toArray true) w :=
  CC.free _ hm hB (h _ below_drew rfl)
theorem fzRow {K : Nat → Prop} {g e : Nat} {xs : List Value} (h : RowL w g e xs) (hg : K g) : ∀ w', Kept K w w' → RowL w' g e xs := fun _ hk => h.kept hk hg
theorem fzCell {K : Nat → Prop} {b a : Nat} {v : Value} (h : w.cell? ⟨b, a, none⟩ = some v) (hb : K b) : ∀ w', Kept K w w' → w'.cell? ⟨b, a, none⟩ = some v := fun _ hk => (World.cell?_of_block (hk.block b hb)).trans h
theorem AA.vsplit {p : Prop} [Decidable p] (i : Nat) (hi : ops[i]? = some o) (hw : ok w) (hB : rfB ops listed i = true) (ht : ∀ w', ok w' → p → Runs P n D M o w' (.value (.bool true)) w') (hf : ∀ w', ok w' → ¬p → Runs P n D M o w' (.value (.bool false)) w') (hd : dstB n o.dst = true) (hg : wantB ops M o.guard = some true)
    (k1 : p → AA P ops ok Q n D (putM M o.dst (.bool true)) f (listed.setIfInBounds i true) w) (k2 : ¬p → AA P ops ok Q n D (putM M o.dst (.bool false)) f (listed.setIfInBounds i true) w) : AA P ops ok Q n D M (f + 1) listed w := by
  by_cases h : p
  · exact AA.pure i hi hw hB (fun w' b => ht w' b h) hd hg (k1 h)
  · exact AA.pure i hi hw hB (fun w' b => hf w' b h) hd hg (k2 h)
theorem AA.pureCDT {p : Prop} [Decidable p] {g : FuncId} {args : Array Value} (i : Nat) (hi : ops[i]? = some o) (hw : ok w) (hB : rfB ops listed i = true) (hr : ∀ w', Runs P n D M o w' (.enter g args) w') (hc : ∀ w', ok w' → Calls P g args w' fun e w'' => e = .returned (.bool (decide p)) ∧ w' = w'') (hd : dstB n o.dst = true) (hg : wantB ops M o.guard = some true) (h : p)
    (k : AA P ops ok Q n D (putM M o.dst (.bool true)) f (listed.setIfInBounds i true) w) : AA P ops ok Q n D M (f + 1) listed w := by
  rw [decide_eq_true h] at hc
  exact AA.pureC i hi hw hB hr hc hd hg k
theorem AA.pureCDF {p : Prop} [Decidable p] {g : FuncId} {args : Array Value} (i : Nat) (hi : ops[i]? = some o) (hw : ok w) (hB : rfB ops listed i = true) (hr : ∀ w', Runs P n D M o w' (.enter g args) w') (hc : ∀ w', ok w' → Calls P g args w' fun e w'' => e = .returned (.bool (decide p)) ∧ w' = w'') (hd : dstB n o.dst = true) (hg : wantB ops M o.guard = some true) (h : ¬p)
    (k : AA P ops ok Q n D (putM M o.dst (.bool false)) f (listed.setIfInBounds i true) w) : AA P ops ok Q n D M (f + 1) listed w := by
  rw [decide_eq_false h] at hc
  exact AA.pureC i hi hw hB hr hc hd hg k
theorem AA.pureCD {p : Prop} [Decidable p] {g : FuncId} {args : Array Value} (i : Nat) (hi : ops[i]? = some o) (hw : ok w) (hB : rfB ops listed i = true) (hr : ∀ w', Runs P n D M o w' (.enter g args) w') (hc : ∀ w', ok w' → Calls P g args w' fun e w'' => e = .returned (.bool (decide p)) ∧ w' = w'') (hd : dstB n o.dst = true) (hg : wantB ops M o.guard = some true)
    (k1 : p → AA P ops ok Q n D (putM M o.dst (.bool true)) f (listed.setIfInBounds i true) w) (k2 : ¬p → AA P ops ok Q n D (putM M o.dst (.bool false)) f (listed.setIfInBounds i true) w) : AA P ops ok Q n D M (f + 1) listed w := by
  by_cases h : p
  · exact AA.pureCDT i hi hw hB hr hc hd hg h (k1 h)
  · exact AA.pureCDF i hi hw hB hr hc hd hg h (k2 h)
theorem AA.three (i j k : Nat) (hr : Region.ready .any ops listed = [i, j, k]) (k1 : SR P ops ok i (fun M w => AA P ops ok Q n D M f (listed.setIfInBounds i true) w) n D M w) (k2 : SR P ops ok j (fun M w => AA P ops ok Q n D M f (listed.setIfInBounds j true) w) n D M w) (k3 : SR P ops ok k (fun M w => AA P ops ok Q n D M f (listed.setIfInBounds k true) w) n D M w) : AA P ops ok Q n D M (f + 1) listed w :=
  .fork [i, j, k] hr (by simp) (fun m hm => by simp at hm; rcases hm with rfl | rfl | rfl; exact k1; exact k2; exact k3)
theorem ZR.callBT {p : Prop} [Decidable p] {g : FuncId} {args : Array Value} (hi : ops[i]? = some o) (hr : Runs P n D M o w (.enter g args) w) (hd : dstB n o.dst = true) (hg : wantB ops M o.guard = some true) (hc : Calls P g args w fun e w' => e = .returned (.bool (decide p)) ∧ Below w.heap.size w w') (h : p) (k : ∀ w', Below w.heap.size w w' → ok w' ∧ K (putM M o.dst (.bool true)) w') : SR P ops ok i K n D M w :=
  SR.call hi hr hd hg hc fun _ w' ⟨he, hw⟩ => ⟨_, by rw [he, decide_eq_true h], (k w' hw).1, (k w' hw).2⟩
theorem ZR.callBF {p : Prop} [Decidable p] {g : FuncId} {args : Array Value} (hi : ops[i]? = some o) (hr : Runs P n D M o w (.enter g args) w) (hd : dstB n o.dst = true) (hg : wantB ops M o.guard = some true) (hc : Calls P g args w fun e w' => e = .returned (.bool (decide p)) ∧ Below w.heap.size w w') (h : ¬p) (k : ∀ w', Below w.heap.size w w' → ok w' ∧ K (putM M o.dst (.bool false)) w') : SR P ops ok i K n D M w :=
  SR.call hi hr hd hg hc fun _ w' ⟨he, hw⟩ => ⟨_, by rw [he, decide_eq_false h], (k w' hw).1, (k w' hw).2⟩
theorem ZR.alloc (cs : List Value) (hi : ops[i]? = some o) (ho : o.op = .alloc t) (hz : zeroB P t = some v) (hcs : v.cells = cs.toArray) (hd : dstB n o.dst = true) (hg : wantB ops M o.guard = some true)
    (c : ∀ w1 g, g = w.heap.size → RowL w1 g t cs → w1.heap.size = g + 1 → Below w.heap.size w w1 → ok w1 ∧ K (putM M o.dst (.pointer (some ⟨g, 0, none⟩))) w1) : SR P ops ok i K n D M w :=
  have h := c _ _ rfl (RowL.new w t cs) (by simp) (Below.alloc0 w _)
  SR.val hi (R.alloc ho (run_alloc hz hcs)) hd hg h.1 h.2
theorem ZR.box (cs : List Value) (hi : ops[i]? = some o) (ho : o.op = .box t x) (hx : evM M x = some v) (hcs : v.cells = cs.toArray) (hd : dstB n o.dst = true) (hg : wantB ops M o.guard = some true)
    (c : ∀ w1 g, g = w.heap.size → RowL w1 g t cs → w1.heap.size = g + 1 → Below w.heap.size w w1 → ok w1 ∧ K (putM M o.dst (.pointer (some ⟨g, 0, none⟩))) w1) : SR P ops ok i K n D M w :=
  have h := c _ _ rfl (RowL.new w t cs) (by simp) (Below.alloc0 w _)
  SR.val hi (R.box ho hx (run_box hcs)) hd hg h.1 h.2
theorem ZR.lit {e k : Nat} {ps : Array (Nat × Operand)} {vs : List (Nat × Value)} (cs : List Value) (len : Nat) (hi : ops[i]? = some o) (ho : o.op = .buildSlice t k ps) (hx : evpM M ps.toList = some vs) (hr : ∀ w, (Instr.buildSlice t k vs.toArray).run P w = .ok (.slice (some ⟨w.heap.size, 0, none⟩) len len) (w.alloc (.cells cs.toArray e))) (hd : dstB n o.dst = true) (hg : wantB ops M o.guard = some true)
    (c : ∀ w1 g, g = w.heap.size → RowL w1 g e cs → w1.heap.size = g + 1 → Below w.heap.size w w1 → ok w1 ∧ K (putM M o.dst (.slice (some ⟨g, 0, none⟩) len len)) w1) : SR P ops ok i K n D M w :=
  have h := c _ _ rfl (RowL.new w e cs) (by simp) (Below.alloc0 w _)
  SR.val hi (R.buildSlice ho hx (hr w)) hd hg h.1 h.2
theorem ZR.store {g off e : Nat} {xs : List Value} (hi : ops[i]? = some o) (ho : o.op = .store t x y) (hx : evM M x = some (.pointer (some ⟨g, off, none⟩))) (hy : evM M y = some v) (hz : szB P t = some 1) (hr : RowL w g e xs) (hl : off < xs.length) (h1 : v.oneCell' = true) (hcs : v.cells = #[v]) (hd : o.dst = none) (hg : wantB ops M o.guard = some true)
    (c : ∀ w1, RowL w1 g e (xs.set off v) → w.grownBy w1 (some g) → w1.heap.size = w.heap.size → ok w1 ∧ K M w1) : SR P ops ok i K n D M w := SR.mk fun K' hK a F => by
  have h := c _ (hr.set off v) (grown_set w _ v) (by simp [World.setCell])
  unfold stepR
  simp only [hi]
  rw [if_pos (F.want hg)]
  refine .inr (.inl ⟨_, R.store ho hx hy (I.st1R hz hr hl h1 hcs) a F, h.1, ?_⟩)
  rw [hd]
  exact hK _ _ h.2 _ F
theorem ZR.storeN {vs : List Value} {g off e : Nat} {xs : List Value} (hi : ops[i]? = some o) (ho : o.op = .store t x y) (hx : evM M x = some (.pointer (some ⟨g, off, none⟩))) (hy : evM M y = some (.agg vs.toArray)) (hz : szB P t = some vs.length) (hr : RowL w g e xs) (hl : off + vs.length ≤ xs.length) (h1 : ∀ u ∈ vs, u.oneCell' = true) (hd : o.dst = none) (hg : wantB ops M o.guard = some true)
    (c : ∀ w1, RowL w1 g e (xs.take off ++ vs ++ xs.drop (off + vs.length)) → w.grownBy w1 (some g) → w1.heap.size = w.heap.size → ok w1 ∧ K M w1) : SR P ops ok i K n D M w := SR.mk fun K' hK a F => by
  obtain ⟨w', hrun, hrow, hgr, hsz⟩ := I.stN (t := t) hz hr hl h1
  have h := c w' hrow hgr hsz
  unfold stepR
  simp only [hi]
  rw [if_pos (F.want hg)]
  refine .inr (.inl ⟨_, R.store ho hx hy hrun a F, h.1, ?_⟩)
  rw [hd]
  exact hK _ _ h.2 _ F
theorem EE.weak {e : Exit} {L : List (Nat × Value)} (h : EE Q n D (sl L) e w) (hL : Fits M L) : EE Q n D M e w := EE.mk fun a F => h.h a (F.keep L hL)
/-- Orders that meet behind the region: what is known there. -/
theorem CC.join {c : Code} (F : List (Nat × Value) → World → Prop) (h : (∀ l w', F l w' → EE Q n D (sl l) .normal w') → CC r P Q n D M c w) (rest : ∀ l w', F l w' → EE Q n D (sl l) .normal w') : CC r P Q n D M c w := h rest
/-- A write into another block. -/
theorem Reads.gr {g b off len cap : Nat} {xs : List Value} (h : Reads w (.slice (some ⟨b, off, none⟩) len cap) xs) (hg : w.grownBy w' (some g)) (hne : b ≠ g) : Reads w' (.slice (some ⟨b, off, none⟩) len cap) xs := by
  obtain ⟨a, c, e, hc, hr⟩ := h
  refine ⟨a, c, e, hc, fun hx => ?_⟩
  obtain ⟨b', off', ea, hb, hcell⟩ := hr hx
  simp only [Value.slice.injEq] at e
  rw [← e.1] at ea
  simp only [Option.some.injEq, Addr.mk.injEq] at ea
  obtain ⟨rfl, rfl, _⟩ := ea
  refine ⟨b, off, by rw [← e.1], Nat.lt_of_lt_of_le hb hg.size, fun j hj => ?_⟩
  rw [← hcell j hj]
  exact World.cell?_of_block (hg.block b hb (by simpa using hne))
end
end Go.Proofs.Ytloflmkolnediaa

/- One element is appended to a slice that is full: a new row. Over any program. -/
namespace Go.Proofs.Ytloflmkolnediaa
set_option linter.unusedVariables false
set_option linter.unusedSimpArgs false
open Go.RowKit

theorem step_full {P : Program} {T e : TypeId} {z : Value} {bytes : Nat} {ops : Array Oper} {o : Oper} {a : Act} {w : World} {K : Act → World → Prop} {Q : Exit → Act → World → Prop} {E : Prop} (I : El P T e z bytes) {s x : Operand}
    (hgd : o.guard = none) (ho : o.op = .call { callee := .builtin .append, args := #[s, x], argTypes := #[T, T] })
    {ao : Option Addr} {n c : Nat} {u : Value} {g : Addr} {xs : List Value} (hs : a.eval s = .slice ao n n) (hx : a.eval x = .slice (some g) 1 c) (hr : Reads w (.slice ao n n) xs) (hnew : w.cell? g = some u) (h1 : u.oneCell' = true)
    (hb : (n + 1) * bytes ≤ 140737488355328) (h63 : n + 1 ≤ maxLen)
    (h : ∀ g cap w', w'.ownsRow w.heap.size e 1 (.slice (some ⟨g, 0, none⟩) (n + 1) cap) (n + 1) (xs ++ [u]) → w.grownBy w' none → K (a.put o.dst (.slice (some ⟨g, 0, none⟩) (n + 1) cap)) w') :
    if Region.wanted o (yielded ops a.tmps) = true then Oper.wp P o a w K Q else E := by
  obtain ⟨i, hi, hz, hsz, hby⟩ := I.info
  have hzs : z.cells.size = 1 := by rw [I.one]; rfl
  obtain ⟨a', cap', e', _, hcells⟩ := hr
  have hxl : xs.length = n := by cases e'; rfl
  have ha : a' = ao := by cases e'; rfl
  subst ha
  refine step_append_grows hgd s x T ho e i z 1 bytes I.under hi hz hsz hby hzs (by decide) a' n n xs hs ?_ (by omega) ?_ g 1 c [u] hx rfl ?_ ?_ (by omega) h63 hb ?_
  · intro hn
    have : xs = [] := by
      cases xs with
      | nil => rfl
      | cons y r =>
        obtain ⟨b, off, hb', _⟩ := hcells (by simp)
        rw [hn] at hb'; cases hb'
    subst this
    simp at hxl
    exact ⟨hxl.symm, hxl.symm⟩
  · intro b hb' j v hj
    have hlt : j < xs.length := by
      rcases Nat.lt_or_ge j xs.length with h | h
      · exact h
      · rw [List.getElem?_eq_none h] at hj; cases hj
    obtain ⟨b2, off, hb2, _, hc⟩ := hcells (by intro h0; rw [h0] at hlt; simp at hlt)
    rw [hb2] at hb'; cases hb'
    rw [Addr.add_lit, hc j hlt, hj]
  · intro j u' hj
    cases j with
    | zero => simp at hj; subst hj; simpa [Addr.add] using hnew
    | succ j => simp at hj
  · intro u' hu; simp at hu; subst hu; exact h1
  · intro v' w' hown hg
    rcases hown.2 with ⟨_, h0⟩ | ⟨g', cap, cur, rfl, _⟩
    · exact absurd h0 (by omega)
    · exact h g' cap w' hown hg

/-- A call of a function, by its contract, as one step of a region that draws its order. -/
theorem step_call1 {P : Program} {ops : Array Oper} {o : Oper} {a : Act} {w : World} {K : Act → World → Prop} {Q : Exit → Act → World → Prop} {E : Prop}
    (hgd : o.guard = none) {f : FuncId} {x : Operand} {ts : Array TypeId} (ho : o.op = .call { callee := .value (.func f), args := #[x], argTypes := ts }) {vx : Value} (hx : a.eval x = vx)
    (eg : ∀ args w, (callFunc f args).run P w = .ok (.enter f args) w) {R : Ending → World → Prop} (hc : Calls P f #[vx] w R) (h : ∀ e w', R e w' → ∃ v, e = .returned v ∧ K (a.put o.dst v) w') :
    if Region.wanted o (yielded ops a.tmps) = true then Oper.wp P o a w K Q else E := by
  have hw : Region.wanted o (yielded ops a.tmps) = true := by simp [Region.wanted, hgd]
  rw [if_pos hw]
  have hf : a.eval (.func f) = .func (.func f) #[] #[] := by simp [Act.eval]
  have hr : (execOp a.eval o).run P w = .ok (.enter f #[vx]) w := by
    unfold execOp
    simp only [ho]
    simp [resolve, invoke, hf, go_sem, eg]
    rw [← hx]; cases x <;> simp [Act.eval]
  unfold Oper.wp
  rw [hr, Oper.upon_enter]
  refine hc.mono ?_
  intro e w' hR
  obtain ⟨v, rfl, hK⟩ := h e w' hR
  exact hK

/-- The same where the operation is guarded, and wanted. -/
theorem step_call1w {P : Program} {ops : Array Oper} {o : Oper} {a : Act} {w : World} {K : Act → World → Prop} {Q : Exit → Act → World → Prop} {E : Prop}
    (hw : Region.wanted o (yielded ops a.tmps) = true) {f : FuncId} {x : Operand} {ts : Array TypeId} (ho : o.op = .call { callee := .value (.func f), args := #[x], argTypes := ts }) {vx : Value} (hx : a.eval x = vx)
    (eg : ∀ args w, (callFunc f args).run P w = .ok (.enter f args) w) {R : Ending → World → Prop} (hc : Calls P f #[vx] w R) (h : ∀ e w', R e w' → ∃ v, e = .returned v ∧ K (a.put o.dst v) w') :
    if Region.wanted o (yielded ops a.tmps) = true then Oper.wp P o a w K Q else E := by
  rw [if_pos hw]
  have hf : a.eval (.func f) = .func (.func f) #[] #[] := by simp [Act.eval]
  have hr : (execOp a.eval o).run P w = .ok (.enter f #[vx]) w := by
    unfold execOp
    simp only [ho]
    simp [resolve, invoke, hf, go_sem, eg]
    rw [← hx]; cases x <;> simp [Act.eval]
  unfold Oper.wp
  rw [hr, Oper.upon_enter]
  refine hc.mono ?_
  intro e w' hR
  obtain ⟨v, rfl, hK⟩ := h e w' hR
  exact hK
end Go.Proofs.Ytloflmkolnediaa

/- Parts of slices. Over any program. -/
namespace Go.Proofs.Ytloflmkolnediaa
set_option linter.unusedVariables false
set_option linter.unusedSimpArgs false
open Go.RowKit Go.Shelf
section
variable {P : Program} {w : World} {T : TypeId} {e k : Nat}
theorem I.slS {b off len cap lo hi : Nat} (h : slB P T = some (e, k)) (h1 : lo ≤ hi) (h2 : hi ≤ cap) (h3 : lo < cap) : (Instr.sliceAt T (.slice (some ⟨b, off, none⟩) len cap) (some (.int .i64 (lo : Int))) (some (.int .i64 (hi : Int))) none).run P w = .ok (.slice (some ⟨b, off + lo * k, none⟩) (hi - lo) (cap - lo)) w := by
  refine slAt_sl h ?_
  obtain ⟨hu, hs⟩ := sl_of h
  obtain ⟨i, hi', hsz⟩ : ∃ i, P.info? e = some i ∧ i.size = k := by
    unfold szB at hs
    cases hq : P.info? e with
    | none => rw [hq] at hs; cases hs
    | some i => rw [hq] at hs; exact ⟨i, rfl, by simpa using hs⟩
  have hne : ¬ cap = lo := by omega
  simp [Instr.slice, run_underlying hu, Instr.sliceBounds, run_sliceBound, sizeOf, typeInfo, hi', hsz, (by omega : (lo : Int) ≤ (hi : Int)), (by omega : (hi : Int) ≤ (cap : Int)), hne, Addr.add]
theorem I.slFrom {b off len cap lo : Nat} (h : slB P T = some (e, k)) (h1 : lo ≤ len) (h2 : len ≤ cap) (h3 : lo < cap) : (Instr.sliceAt T (.slice (some ⟨b, off, none⟩) len cap) (some (.int .i64 (lo : Int))) none none).run P w = .ok (.slice (some ⟨b, off + lo * k, none⟩) (len - lo) (cap - lo)) w := by
  refine slAt_sl h ?_
  obtain ⟨hu, hs⟩ := sl_of h
  obtain ⟨i, hi', hsz⟩ : ∃ i, P.info? e = some i ∧ i.size = k := by
    unfold szB at hs
    cases hq : P.info? e with
    | none => rw [hq] at hs; cases hs
    | some i => rw [hq] at hs; exact ⟨i, rfl, by simpa using hs⟩
  have hne : ¬ cap = lo := by omega
  simp [Instr.slice, run_underlying hu, Instr.sliceBounds, run_sliceBound, sizeOf, typeInfo, hi', hsz, (by omega : (lo : Int) ≤ (len : Int)), hne, Addr.add]
theorem I.slTo {a : Option Addr} {len cap hi : Nat} (h : slB P T = some (e, k)) (h2 : hi ≤ cap) : (Instr.sliceAt T (.slice a len cap) none (some (.int .i64 (hi : Int))) none).run P w = .ok (.slice a hi cap) w := by
  refine slAt_sl h ?_
  obtain ⟨hu, hs⟩ := sl_of h
  obtain ⟨i, hi', hsz⟩ : ∃ i, P.info? e = some i ∧ i.size = k := by
    unfold szB at hs
    cases hq : P.info? e with
    | none => rw [hq] at hs; cases hs
    | some i => rw [hq] at hs; exact ⟨i, rfl, by simpa using hs⟩
  simp [Instr.slice, run_underlying hu, Instr.sliceBounds, run_sliceBound, sizeOf, typeInfo, hi', hsz, (by omega : (hi : Int) ≤ (cap : Int))]
  cases a <;> simp [Addr.add]
theorem I.slSc {b off len cap lo hi : Nat} (hlit : Nat.ble lo 18446744073709551616 = true) (hlit2 : Nat.ble hi 18446744073709551616 = true) (h : slB P T = some (e, k)) (h1 : (@OfNat.ofNat Nat lo (instOfNatNat lo)) ≤ @OfNat.ofNat Nat hi (instOfNatNat hi)) (h2 : (@OfNat.ofNat Nat hi (instOfNatNat hi)) ≤ cap) (h3 : (@OfNat.ofNat Nat lo (instOfNatNat lo)) < cap) : (Instr.sliceAt T (.slice (some ⟨b, off, none⟩) len cap) (some (.int .i64 (@OfNat.ofNat Int lo instOfNat))) (some (.int .i64 (@OfNat.ofNat Int hi instOfNat))) none).run P w = .ok (.slice (some ⟨b, off + (@OfNat.ofNat Nat lo (instOfNatNat lo)) * k, none⟩) ((@OfNat.ofNat Nat hi (instOfNatNat hi)) - (@OfNat.ofNat Nat lo (instOfNatNat lo))) (cap - (@OfNat.ofNat Nat lo (instOfNatNat lo)))) w := I.slS h h1 h2 h3
theorem I.slToc {a : Option Addr} {len cap hi : Nat} (hlit : Nat.ble hi 18446744073709551616 = true) (h : slB P T = some (e, k)) (h2 : (@OfNat.ofNat Nat hi (instOfNatNat hi)) ≤ cap) : (Instr.sliceAt T (.slice a len cap) none (some (.int .i64 (@OfNat.ofNat Int hi instOfNat))) none).run P w = .ok (.slice a (@OfNat.ofNat Nat hi (instOfNatNat hi)) cap) w := I.slTo h h2
theorem R.minE {o : Oper} {n : Nat} {D : List Deferred} {M : Slots} {xs : Array Operand} {ts : Array TypeId} {k : IntKind} {y z x : Int} (ho : o.op = .call { callee := .builtin .min, args := xs, argTypes := ts }) (hx : evsM M xs.toList = some [.int k y, .int k z]) (e : (if z < y then z else y) = x) : Runs P n D M o w (.value (.int k x)) w := by
  subst e
  exact R.min ho hx
theorem cell_up {w' : World} {b o : Nat} {v : Value} (h : w.cell? ⟨b, o, none⟩ = some v) (hb : Below w.heap.size w w') : w'.cell? ⟨b, o, none⟩ = some v :=
  (World.cell?_of_block (hb.block b (World.block_lt_of_cell? w _ h))).trans h
theorem cell_gr {w' : World} {b o : Nat} {r : Nat} {v : Value} (h : w.cell? ⟨b, o, none⟩ = some v) (hg : w.grownBy w' (some r)) (hne : b ≠ r) : w'.cell? ⟨b, o, none⟩ = some v :=
  hg.cell h (by simpa using hne)
theorem cell_kept {K : Nat → Prop} {w' : World} {b o : Nat} {v : Value} (h : w.cell? ⟨b, o, none⟩ = some v) (hk : Kept K w w') (hb : K b) : w'.cell? ⟨b, o, none⟩ = some v := (World.cell?_of_block (hk.block b hb)).trans h
/-- A part of what a slice reads as. -/
theorem Reads.part {b off len cap lo hi : Nat} {xs : List Value} (h : Reads w (.slice (some ⟨b, off, none⟩) len cap) xs) (h1 : lo ≤ hi) (h2 : hi ≤ len) (h3 : hi - lo ≤ cap - lo) : Reads w (.slice (some ⟨b, off + lo * 1, none⟩) (hi - lo) (cap - lo)) ((xs.drop lo).take (hi - lo)) := by
  obtain ⟨a, c, e, hc, hr⟩ := h
  simp only [Value.slice.injEq] at e
  obtain ⟨rfl, rfl, rfl⟩ := e
  have hl : ((xs.drop lo).take (hi - lo)).length = hi - lo := by simp; omega
  refine ⟨_, _, by rw [hl], by rw [hl]; exact h3, fun hne => ?_⟩
  have hx : xs ≠ [] := by rintro rfl; simp at hne
  obtain ⟨b', off', ea, hb, hcell⟩ := hr hx
  simp only [Option.some.injEq, Addr.mk.injEq] at ea
  obtain ⟨rfl, rfl, _⟩ := ea
  refine ⟨b, off + lo * 1, rfl, hb, fun j hj => ?_⟩
  rw [hl] at hj
  have := hcell (lo + j) (by omega)
  rw [Nat.mul_one, Nat.add_assoc, this, List.getElem?_take, if_pos hj, List.getElem?_drop]
theorem SR.storeN {ops : Array Oper} {ok : World → Prop} {i : Nat} {K : Slots → World → Prop} {n : Nat} {D : List Deferred} {M : Slots} {o : Oper} {x y : Operand} {t : TypeId} {g off e : Nat} {xs vs : List Value} (hi : ops[i]? = some o) (ho : o.op = .store t x y) (hx : evM M x = some (.pointer (some ⟨g, off, none⟩))) (hy : evM M y = some (.agg vs.toArray)) (hz : szB P t = some vs.length) (hr : RowL w g e xs) (hl : off + vs.length ≤ xs.length) (h1 : ∀ u ∈ vs, u.oneCell' = true) (hd : o.dst = none) (hg : wantB ops M o.guard = some true)
    (c : ∀ w1, RowL w1 g e (xs.take off ++ vs ++ xs.drop (off + vs.length)) → w.grownBy w1 (some g) → w1.heap.size = w.heap.size → ok w1 ∧ K M w1) : SR P ops ok i K n D M w := SR.mk fun K' hK a F => by
  obtain ⟨w', hrun, hrow, hgr, hsz⟩ := I.stN hz hr hl h1
  have h := c w' hrow hgr hsz
  unfold stepR
  simp only [hi]
  rw [if_pos (F.want hg)]
  refine .inr (.inl ⟨_, R.store ho hx hy hrun a F, h.1, ?_⟩)
  rw [hd]
  exact hK _ _ h.2 _ F
end
end Go.Proofs.Ytloflmkolnediaa

/- Slices of tuples for the tool that writes walks: facts that are carried; two slices of one's own, one beside the other. Over any program. -/
namespace Go.Proofs.Ytloflmkolnediaa
set_option linter.unusedVariables false
set_option linter.unusedSimpArgs false
open Go.RowKit Go.Shelf
section
variable {α β : Type} {enc : α → List Value} {k e : Nat} {w w' : World} {v : Value} {ts : List α}
theorem Cells.up {b o : Nat} {vs : List Value} (h : Cells w ⟨b, o, none⟩ vs) (hb : Below w.heap.size w w') : Cells w' ⟨b, o, none⟩ vs := fun j u hu => by
  have h1 := h j u hu
  rw [Addr.add_lit] at h1 ⊢
  exact (World.cell?_of_block (hb.block b (World.block_lt_of_cell? w _ h1))).trans h1
theorem Cells.gr {b o g : Nat} {vs : List Value} (h : Cells w ⟨b, o, none⟩ vs) (hg : w.grownBy w' (some g)) (hne : b ≠ g) : Cells w' ⟨b, o, none⟩ vs := fun j u hu => by
  have h1 := h j u hu
  rw [Addr.add_lit] at h1 ⊢
  exact (World.cell?_of_block (hg.block b (World.block_lt_of_cell? w _ h1) (by simpa using hne))).trans h1
theorem Below.of_none (h : w.grownBy w' none) : Below w.heap.size w w' := (Below.refl _ _).grown h (Nat.le_refl _) fun j ej => by cases ej
theorem Kept.onB {w0 : World} {n : Nat} {K : Nat → Prop} (k : Kept K w w') (h : Below n w0 w) (hK : ∀ j, j < n → K j) : Below n w0 w' :=
  ⟨k.os.trans h.os, k.tape.trans h.tape, k.output.trans h.output, Nat.le_trans h.size k.size, fun j hj => (k.block j (hK j hj)).trans (h.block j hj)⟩
/-- What an append to another slice leaves. -/
theorem OwnsT.apart {r : Option Nat} {base : Nat} (h : OwnsT enc k w base e v ts) (hg : w.grownBy w' r) (hne : v.ownBlock = Option.none ∨ v.ownBlock ≠ r) : OwnsT enc k w' base e v ts := by
  cases r with
  | none => exact h.up (Below.of_none hg)
  | some g =>
    rcases hne with hne | hne
    · exact h.grown hg (by rw [hne]; simp)
    · exact h.grown hg hne
theorem Below.grownO {r : Option Nat} {w0 : World} {n : Nat} (h : Below n w0 w) (hg : w.grownBy w' r) (hn : n ≤ w.heap.size) (hr : ∀ g, r = some g → n ≤ g) : Below n w0 w' := h.grown hg hn hr
theorem RowL.grO {r : Option Nat} {g : Nat} {xs : List Value} (h : RowL w g e xs) (hg : w.grownBy w' r) (hr : r ≠ some g) : RowL w' g e xs := by
  cases r with
  | none => exact h.up (Below.of_none hg)
  | some b => exact h.gr hg (fun e => hr (by rw [e]))
theorem ReadsT.gr {g b off n cap : Nat} (h : ReadsT enc k w (.slice (some ⟨b, off, none⟩) n cap) ts) (hg : w.grownBy w' (some g)) (hne : b ≠ g) : ReadsT enc k w' (.slice (some ⟨b, off, none⟩) n cap) ts := h.grown hg fun x n' c' e _ => by
  simp only [Value.slice.injEq, Option.some.injEq] at e
  rw [← e.1]
  exact hne
theorem OwnsT.apart2 {r : Option Nat} {base : Nat} (h : OwnsT enc k w base e v ts) (hg : w.grownBy w' r) (hne : r = Option.none ∨ r ≠ v.ownBlock) : OwnsT enc k w' base e v ts := by
  rcases hne with rfl | hne
  · exact h.up (Below.of_none hg)
  · exact h.apart hg (.inr (Ne.symm hne))
theorem ownNe1 {v1 v1' v2 : Value} {S : Nat} (hne : v2.ownBlock = Option.none ∨ v2.ownBlock ≠ v1.ownBlock) (h1 : v1'.ownBlock = v1.ownBlock ∨ ∃ b, v1'.ownBlock = some b ∧ S ≤ b) (h2 : v2.ownBlock = Option.none ∨ ∃ b, v2.ownBlock = some b ∧ b < S) : v2.ownBlock = Option.none ∨ v2.ownBlock ≠ v1'.ownBlock := by
  rcases h1 with h1 | ⟨b, h1, hb⟩
  · rw [h1]; exact hne
  · rcases h2 with h2 | ⟨b2, h2, hb2⟩
    · exact .inl h2
    · refine .inr (fun e => ?_)
      rw [h1, h2] at e
      cases e
      omega
theorem ownNe2 {v1 v2 v2' : Value} {S : Nat} (hne : v2.ownBlock = Option.none ∨ v2.ownBlock ≠ v1.ownBlock) (h2 : v2'.ownBlock = v2.ownBlock ∨ ∃ b, v2'.ownBlock = some b ∧ S ≤ b) (h1 : v1.ownBlock = Option.none ∨ ∃ b, v1.ownBlock = some b ∧ b < S) : v2'.ownBlock = Option.none ∨ v2'.ownBlock ≠ v1.ownBlock := by
  rcases h2 with h2 | ⟨b, h2, hb⟩
  · rw [h2]; exact hne
  · refine .inr (fun e => ?_)
    rcases h1 with h1 | ⟨b1, h1, hb1⟩
    · rw [h1, h2] at e; cases e
    · rw [h1, h2] at e; cases e; omega
theorem own_lt {base : Nat} (h : OwnsT enc k w base e v ts) : v.ownBlock = Option.none ∨ ∃ b, v.ownBlock = some b ∧ b < w.heap.size := by
  rcases h.above with h | ⟨b, h, _, hl⟩
  · exact .inl h
  · exact .inr ⟨b, h, hl⟩
theorem own_ge {base : Nat} (h : OwnsT enc k w base e v ts) : ∀ g, v.ownBlock = some g → base ≤ g := by
  intro g hg
  rcases h.above with h | ⟨b, h, hb, _⟩
  · rw [h] at hg; cases hg
  · rw [h] at hg; cases hg; exact hb
theorem own_ne {base g : Nat} (h : OwnsT enc k w base e v ts) (hg : g < base) : v.ownBlock ≠ some g := fun e => by
  have := own_ge h g e
  omega
end
section
variable {P : Program} {w : World} {T TI e : TypeId} {z : Value} {bytes : Nat} {kn : IntKind} {o : Oper} {n i : Nat} {D : List Deferred} {M : Slots} {ops : Array Oper} {ok : World → Prop} {K : Slots → World → Prop}
theorem ZR.append {xs : Array Operand} {v vx : Value} {base m : Nat} {us ys : List Value} (hi : ops[i]? = some o) (ho : o.op = .call { callee := .builtin .append, args := xs, argTypes := #[T, T] }) (hx : evsM M xs.toList = some [v, vx]) (I : El P T e z bytes) (hown : w.ownsRow base e 1 v m us) (hr : Reads w vx ys) (hone : ∀ u ∈ ys, u.oneCell' = true)
    (h63 : m + ys.length ≤ maxLen) (hb : (m + ys.length) * bytes ≤ 140737488355328) (hbase : base ≤ w.heap.size) (hd : dstB n o.dst = true) (hg : wantB ops M o.guard = some true)
    (k : ∀ v' w', w'.ownsRow base e 1 v' (m + ys.length) (us ++ ys) → w.grownBy w' v.ownBlock → ok w' ∧ K (putM M o.dst v') w') : SR P ops ok i K n D M w := by
  obtain ⟨v', w', h1, h2, h3⟩ := run_append_all I o.type hown hr hone h63 hb hbase
  have h := k v' w' h2 h3
  refine SR.val (v := v') hi (R.builtin ho hx fun b => ?_) hd hg h.1 h.2
  unfold builtin
  simp only [Sem.run_bind, h1, Result.andThen_ok, Sem.run_pure]
/-- A write into a row of one's own. -/
theorem owns_set {base g cap m j : Nat} {xs : List Value} {u : Value} (h : w.ownsRow base e 1 (.slice (some ⟨g, 0, none⟩) m cap) m xs) (hj : j < m) :
    ∃ cur, RowL w g e cur ∧ j < cur.length ∧ base ≤ g ∧ ∀ w', RowL w' g e (cur.set j u) → w'.ownsRow base e 1 (.slice (some ⟨g, 0, none⟩) m cap) m (xs.set j u) := by
  rcases id h.2 with ⟨e1, _⟩ | ⟨g', cap', cur, e1, hbg, hg', hnc, hcm, hcs, htake⟩
  · cases e1
  · cases e1
    refine ⟨cur.toList, hg', by simp; omega, hbg, fun w' hw => ⟨by rw [List.length_set]; exact h.1, .inr ⟨g, cap, (cur.toList.set j u).toArray, rfl, hbg, hw, hnc, hcm, by simp [hcs], ?_⟩⟩⟩
    rw [← htake]
    simp only [List.toList_toArray, List.take_set]
end
end Go.Proofs.Ytloflmkolnediaa

/- Slices of one's own that grow in the rounds of a range over a function; facts that such a range leaves. Over any program. -/
namespace Go.Proofs.Ytloflmkolnediaa
set_option linter.unusedVariables false
set_option linter.unusedSimpArgs false
open Go.RowKit Go.Shelf
section
variable {α : Type} {enc : α → List Value} {k e B : Nat} {m : Nat → Prop} {w w' : World} {v : Value} {ts : List α}
theorem OwnsT.same {base : Nat} (h : OwnsT enc k w base e v ts) (hz : w.heap.size ≤ w'.heap.size) (hs : ∀ (g : Nat) (cs : Array Value), v.ownBlock = some g → w.heap[g]? = some (.cells cs e) → w'.heap[g]? = some (.cells cs e)) : OwnsT enc k w' base e v ts := by
  rcases id h.2 with ⟨e1, e2⟩ | ⟨g, cap, cur, rfl, hbg, hg, r⟩
  · exact ⟨h.1, .inl ⟨e1, e2⟩⟩
  · exact ⟨h.1, .inr ⟨g, cap, cur, rfl, hbg, hs g cur rfl hg, r⟩⟩
theorem OwnsT.turn {base : Nat} (h : OwnsT enc k w base e v ts) (ht : TurnsZ B m w w') (hm : ∀ g, v.ownBlock = some g → ¬ m g) : OwnsT enc k w' base e v ts :=
  h.same ht.size fun g cs hg hx => ht.same g _ hx (.inr ⟨hm g hg, rfl⟩)
theorem TurnsZ.cell {b o : Nat} {u : Value} (ht : TurnsZ B m w w') (h : w.cell? ⟨b, o, none⟩ = some u) (hb : b < B) : w'.cell? ⟨b, o, none⟩ = some u := by
  have hlt := World.block_lt_of_cell? _ _ h
  have hx := Array.getElem?_eq_getElem hlt
  exact (World.cell?_of_block ((ht.same b _ hx (.inl hb)).trans hx.symm)).trans h
theorem cell_grO {b o : Nat} {r : Option Nat} {u : Value} (h : w.cell? ⟨b, o, none⟩ = some u) (hg : w.grownBy w' r) (hr : r ≠ some b) : w'.cell? ⟨b, o, none⟩ = some u := by
  cases r with
  | none => exact cell_up h (Below.of_none hg)
  | some g => exact cell_gr h hg (fun e => hr (by rw [e]))
theorem Reads.sameB {b off len cap : Nat} {xs : List Value} (h : Reads w (.slice (some ⟨b, off, none⟩) len cap) xs) (hz : w.heap.size ≤ w'.heap.size) (hs : ∀ o, w.heap[b]? = some o → w'.heap[b]? = some o) : Reads w' (.slice (some ⟨b, off, none⟩) len cap) xs := by
  obtain ⟨a, c, e, hc, hr⟩ := h
  refine ⟨a, c, e, hc, fun hx => ?_⟩
  obtain ⟨b', off', ea, hb, hcell⟩ := hr hx
  simp only [Value.slice.injEq] at e
  rw [← e.1] at ea
  simp only [Option.some.injEq, Addr.mk.injEq] at ea
  obtain ⟨rfl, rfl, _⟩ := ea
  refine ⟨b, off, by rw [← e.1], Nat.lt_of_lt_of_le hb hz, fun j hj => ?_⟩
  rw [← hcell j hj]
  have hx := Array.getElem?_eq_getElem hb
  exact World.cell?_of_block ((hs _ hx).trans hx.symm)
theorem Reads.turn {b off len cap : Nat} {xs : List Value} (h : Reads w (.slice (some ⟨b, off, none⟩) len cap) xs) (ht : TurnsZ B m w w') (hb : b < B) : Reads w' (.slice (some ⟨b, off, none⟩) len cap) xs :=
  h.sameB ht.size fun o ho => ht.same b o ho (.inl hb)
theorem Reads.grO {b off len cap : Nat} {r : Option Nat} {xs : List Value} (h : Reads w (.slice (some ⟨b, off, none⟩) len cap) xs) (hg : w.grownBy w' r) (hr : r ≠ some b) : Reads w' (.slice (some ⟨b, off, none⟩) len cap) xs := by
  cases r with
  | none => exact h.up (Below.of_none hg)
  | some g => exact h.gr hg (fun e => hr (by rw [e]))
theorem ReadsT.sameB {b off len cap : Nat} (h : ReadsT enc k w (.slice (some ⟨b, off, none⟩) len cap) ts) (hz : w.heap.size ≤ w'.heap.size) (hs : ∀ o, w.heap[b]? = some o → w'.heap[b]? = some o) : ReadsT enc k w' (.slice (some ⟨b, off, none⟩) len cap) ts := by
  obtain ⟨a, c, e, hc, hr⟩ := h
  refine ⟨a, c, e, hc, fun hx => ?_⟩
  obtain ⟨b', off', ea, hb, hcell⟩ := hr hx
  simp only [Value.slice.injEq] at e
  rw [← e.1] at ea
  simp only [Option.some.injEq, Addr.mk.injEq] at ea
  obtain ⟨rfl, rfl, _⟩ := ea
  refine ⟨b, off, by rw [← e.1], Nat.lt_of_lt_of_le hb hz, ?_⟩
  have hx := Array.getElem?_eq_getElem hb
  have hbk := (hs _ hx).trans hx.symm
  intro j hj
  rw [← hcell j hj]
  exact World.cell?_of_block hbk
theorem reads_cell {b off len cap j : Nat} {xs : List Value} {u : Value} (h : Reads w (.slice (some ⟨b, off, none⟩) len cap) xs) (hu : xs[j]? = some u) : w.cell? ⟨b, off + j, none⟩ = some u := by
  obtain ⟨a, c, e, hc, hr⟩ := h
  have hj := (List.getElem?_eq_some_iff.1 hu).1
  obtain ⟨b', off', ea, hb, hcell⟩ := hr (by intro h0; rw [h0] at hj; exact Nat.not_lt_zero _ hj)
  simp only [Value.slice.injEq] at e
  rw [← e.1] at ea
  simp only [Option.some.injEq, Addr.mk.injEq] at ea
  obtain ⟨rfl, rfl, _⟩ := ea
  rw [hcell j hj]
  exact hu
theorem reads_int {b off len cap j : Nat} {kk : IntKind} {ns : List Nat} {y : Nat} (h : Reads w (.slice (some ⟨b, off, none⟩) len cap) (ints kk ns)) (hy : ns[j]? = some y) : w.cell? ⟨b, off + j, none⟩ = some (.int kk (y : Int)) :=
  reads_cell h (by simp only [ints, List.getElem?_map, hy]; rfl)
/-- A write into a slice of one's own, in a round. -/
theorem StaysZ.own {base : Nat} (h : OwnsT enc k w base e v ts) (hg : w.grownBy w' v.ownBlock) (hm : ∀ g, v.ownBlock = some g → ¬ m g) : StaysZ B m w w' := by
  refine ⟨hg.size, fun j o hb hj hc => ?_⟩
  have hlt := (Array.getElem?_eq_some_iff.1 hj).1
  refine (hg.block j hlt fun ej => ?_).trans hj
  rcases id h.2 with ⟨e1, e2⟩ | ⟨g, cap, cur, rfl, hbg, hgg, r⟩
  · rw [e1] at ej; cases ej
  · have ej' : j = g := by simpa [Value.ownBlock] using ej
    subst ej'
    rcases hc with hc | hc
    · exact hm j rfl hc
    · rw [hgg] at hj; cases hj; cases hc
theorem own_later {base : Nat} {m' : Nat → Prop} (o : OwnsT enc k w base e v ts) (hm : ∀ g, v.ownBlock = some g → ¬ m g) (hg : ∀ j, m' j → m j ∨ w.heap.size ≤ j) : ∀ g, v.ownBlock = some g → ¬ m' g := fun g hgv h => by
  rcases hg g h with h | h
  · exact hm g hgv h
  · rcases own_lt o with e1 | ⟨b, e1, hb⟩
    · rw [e1] at hgv; cases hgv
    · rw [e1] at hgv; cases hgv; omega
theorem own_taken {base E : Nat} (o : OwnsT enc k w base e v ts) (hE : w.heap[E]? = some (.deferred (some []))) : OwnsT enc k (taken E w) base e v ts :=
  o.same (by simp [taken]) fun g cs hg hx => (World.putObj_heap_other (fun e => by subst e; rw [hE] at hx; cases hx)).trans hx
theorem ownsT_form {base N : Nat} (h : OwnsT enc k w base e v ts) (hN : ts.length = N) (hn : 0 < N) : ∃ g cap, v = .slice (some ⟨g, 0, none⟩) N cap ∧ base ≤ g ∧ g < w.heap.size ∧ N ≤ cap := by
  subst hN
  rcases id h.2 with ⟨rfl, e1⟩ | ⟨g, cap, cur, rfl, hbg, hg, hnc, hcm, hcs, htake⟩
  · rw [e1] at hn; exact absurd hn (Nat.lt_irrefl _)
  · exact ⟨g, cap, rfl, hbg, (Array.getElem?_eq_some_iff.1 hg).1, hnc⟩
theorem own_new {v' : Value} (h1 : v'.ownBlock = v.ownBlock ∨ ∃ b, v'.ownBlock = some b ∧ w.heap.size ≤ b) (hm : ∀ g, v.ownBlock = some g → ¬ m g) (hlt : ∀ j, m j → j < w.heap.size) : ∀ g, v'.ownBlock = some g → ¬ m g := fun g hg => by
  rcases h1 with h1 | ⟨b, h1, hb⟩
  · exact hm g (by rw [← h1]; exact hg)
  · rw [h1] at hg; cases hg
    intro h
    have := hlt _ h
    omega
end
end Go.Proofs.Ytloflmkolnediaa

/- Slices whose elements have many cells: made, copied; parts of elements loaded and stored. Over any program. -/
namespace Go.Proofs.Ytloflmkolnediaa
set_option linter.unusedVariables false
set_option linter.unusedSimpArgs false
open Go.RowKit Go.Shelf

/-- k cells from a place on. -/
structure CellsN (w : World) (p : Addr) (k : Nat) (vs : List Value) : Prop where
  at' : Cells w p vs
  len : vs.length = k
section
variable {w w' : World} {p : Addr} {k b o : Nat} {vs : List Value} {P : Program} {t : TypeId}
theorem CellsN.lt (h : CellsN w ⟨b, o, none⟩ k vs) (hk : 0 < k) : b < w.heap.size := by
  have hl := h.len
  obtain ⟨u, hu⟩ : ∃ u, vs[0]? = some u := ⟨_, List.getElem?_eq_getElem (by omega)⟩
  have := h.at' 0 u hu
  rw [add_plain] at this
  exact World.block_lt_of_cell? _ _ this
theorem CellsN.up (h : CellsN w ⟨b, o, none⟩ k vs) (hb : Below w.heap.size w w') : CellsN w' ⟨b, o, none⟩ k vs := ⟨fun j u hu => by
  have h1 := h.at' j u hu
  rw [add_plain] at *
  exact (hb.cell (p := ⟨b, o + j, none⟩) (World.block_lt_of_cell? _ _ h1)).trans h1, h.len⟩
theorem CellsN.gr {r : Nat} (h : CellsN w ⟨b, o, none⟩ k vs) (hg : w.grownBy w' (some r)) (hne : b ≠ r) : CellsN w' ⟨b, o, none⟩ k vs := ⟨fun j u hu => by
  have h1 := h.at' j u hu
  rw [add_plain] at *
  exact (World.cell?_of_block (hg.block b (World.block_lt_of_cell? _ _ h1) (by simpa using hne))).trans h1, h.len⟩
theorem CellsN.kept {K : Nat → Prop} (h : CellsN w ⟨b, o, none⟩ k vs) (hk : Kept K w w') (hb : K b) : CellsN w' ⟨b, o, none⟩ k vs := ⟨fun j u hu => by
  have h1 := h.at' j u hu
  rw [add_plain] at *
  exact (World.cell?_of_block (hk.block b hb)).trans h1, h.len⟩
/-- A part. -/
theorem CellsN.part {us : List Value} (h : CellsN w ⟨b, o, none⟩ k vs) (c : Nat) {k' : Nat} (hu : (vs.drop c).take k' = us) (hl : c + k' ≤ k) : CellsN w ⟨b, o + c, none⟩ k' us := by
  have hv := h.len
  subst hu
  refine ⟨fun j u hj => ?_, by rw [List.length_take, List.length_drop]; omega⟩
  have hlt := (List.getElem?_eq_some_iff.1 hj).1
  rw [List.length_take, List.length_drop] at hlt
  rw [List.getElem?_take, if_pos (by omega), List.getElem?_drop] at hj
  have := h.at' _ u hj
  rw [add_plain] at *
  rw [Nat.add_assoc]
  exact this
theorem CellsN.cell {u : Value} (h : CellsN w ⟨b, o, none⟩ k vs) {j : Nat} (hu : vs[j]? = some u) : w.cell? ⟨b, o + j, none⟩ = some u := by
  have := h.at' j u hu
  rwa [add_plain] at this
theorem I.ldM (h : CellsN w p k vs) (hT : aggB P t = true) (hz : szB P t = some k) : (Instr.loadAt t (.pointer (some p))).run P w = .ok (.agg vs.toArray) w := I.ldN hT (by rw [hz, h.len]) h.at'
theorem lvM (h : CellsN w p k vs) (hT : aggB P t = true) (hz : szB P t = some k) : (loadVar t p).run P w = .ok (.agg vs.toArray) w := lvN hT (by rw [hz, h.len]) h.at'
theorem RowL.cellsN {g e off : Nat} {xs : List Value} (h : RowL w g e xs) (hv : (xs.drop off).take k = vs) (hl : off + k ≤ xs.length) : CellsN w ⟨g, off, none⟩ k vs := by
  have hlen : vs.length = k := by rw [← hv, List.length_take, List.length_drop]; omega
  exact ⟨h.cells (by rw [hlen]; exact hv), hlen⟩
theorem RowL.elemN {α : Type} {enc : α → List Value} {g e i : Nat} {ts : List α} {x : α} (E : Enc enc k) (h : RowL w g e (ts.flatMap enc)) (hx : ts[i]? = some x) : CellsN w ⟨g, i * k, none⟩ k (enc x) := by
  have hi := (List.getElem?_eq_some_iff.1 hx).1
  have hf := E.flat ts
  have hin : i * k + k ≤ ts.length * k := by
    have : (i + 1) * k ≤ ts.length * k := Nat.mul_le_mul_right _ hi
    rw [Nat.add_mul] at this
    omega
  refine h.cellsN ?_ (by omega)
  rw [E.drop, ← Nat.one_mul k, E.take]
  rw [show ts.drop i = x :: ts.drop (i + 1) by rw [← (List.getElem?_eq_some_iff.1 hx).2]; exact List.drop_eq_getElem_cons hi]
  simp
theorem ReadsT.elemN {α : Type} {enc : α → List Value} (E : Enc enc k) {off n cap i : Nat} {ts : List α} {x : α} (h : ReadsT enc k w (.slice (some ⟨b, off, none⟩) n cap) ts) (hx : ts[i]? = some x) : CellsN w ⟨b, off + i * k, none⟩ k (enc x) := by
  obtain ⟨b', off', e, _, hc⟩ := h.get E hx
  simp only [Option.some.injEq, Addr.mk.injEq] at e
  obtain ⟨rfl, rfl, _⟩ := e
  exact ⟨hc, E.len x⟩
theorem ReadsT.kp {α : Type} {enc : α → List Value} {K : Nat → Prop} {off n cap : Nat} {ts : List α} (h : ReadsT enc k w (.slice (some ⟨b, off, none⟩) n cap) ts) (hk : Kept K w w') (hb : K b) : ReadsT enc k w' (.slice (some ⟨b, off, none⟩) n cap) ts :=
  h.sameB hk.size fun _ ho => (hk.block b hb).trans ho
end

section
variable {α : Type} {enc : α → List Value} {k : Nat} {P : Program} {w : World} {o : Oper} {n : Nat} {D : List Deferred} {M : Slots} {T e : TypeId} {z : Value} {bytes : Nat} {r : Option Nat} {ops : Array Oper} {Q : Exit → Act → World → Prop} {rest : List Oper}
theorem madeCells_rep (zs : List Value) (hk : 0 < zs.length) (m : Nat) : (madeCells zs.toArray (m * zs.length)).toList = (List.replicate m zs).flatten := by
  apply List.ext_getElem?
  intro j
  unfold madeCells
  simp only [Array.toList_map, Array.toList_range, List.getElem?_map, List.size_toArray]
  have key : ∀ (m j : Nat), (List.replicate m zs).flatten[j]? = if j < m * zs.length then zs[j % zs.length]? else none := by
    intro m
    induction m with
    | zero => intro j; simp
    | succ m ih =>
      intro j
      rw [List.replicate_succ, List.flatten_cons, List.getElem?_append]
      by_cases hj : j < zs.length
      · rw [if_pos hj, Nat.mod_eq_of_lt hj, if_pos]
        rw [Nat.add_mul]; omega
      · rw [if_neg hj, ih (j - zs.length)]
        have e1 : (j - zs.length) % zs.length = j % zs.length := by
          conv => rhs; rw [show j = (j - zs.length) + zs.length by omega, Nat.add_mod_right]
        rw [e1, Nat.add_mul]
        by_cases h2 : j - zs.length < m * zs.length
        · rw [if_pos h2, if_pos (by omega)]
        · rw [if_neg h2, if_neg (by omega)]
  rw [key]
  by_cases hj : j < m * zs.length
  · have hm : j % zs.length < zs.length := Nat.mod_lt _ hk
    rw [if_pos hj, List.getElem?_range hj, List.getElem?_eq_getElem hm]
    simp [hm]
  · rw [if_neg hj, List.getElem?_eq_none (by simpa using Nat.le_of_not_lt hj)]
    rfl
/-- make([]T, l, m) of elements of many cells. -/
theorem run_mkE {zs : List Value} (I : ElT P T e z k bytes) (hzc : z.cells = zs.toArray) (hk : 0 < k) (l m : Nat) (hl : l ≤ m) (hb : bytes * m ≤ 281474976710656) (hn : m ≤ 9223372036854775807) (w : World) :
    ∃ w', (Instr.makeSlice T (.int .i64 (l : Int)) (.int .i64 (m : Int))).run P w = .ok (.slice (some ⟨w.heap.size, 0, none⟩) l m) w' ∧ RowL w' w.heap.size e (List.replicate m zs).flatten ∧ Below w.heap.size w w' ∧ w'.heap.size = w.heap.size + 1 := by
  obtain ⟨i, hi, hz, hsz, hby⟩ := I.info
  have hm := I.many
  rw [hzc] at hm
  have hzl : zs.length = k := by simpa using hm
  have hb' : (i.bytes : Int) * (m : Int) ≤ 281474976710656 := by
    have h : ((i.bytes * m : Nat) : Int) ≤ 281474976710656 := by rw [hby]; omega
    rwa [Int.natCast_mul] at h
  have h := run_make (P := P) w T e i z I.under hi hz .i64 .i64 l m (by omega) (by omega) hb' (by omega)
  simp only [Int.toNat_natCast, hsz, hzc] at h
  refine ⟨_, h, ?_, Below.alloc0 w _, by simp⟩
  have e1 : madeCells zs.toArray (m * k) = (List.replicate m zs).flatten.toArray := by
    rw [← madeCells_rep zs (by omega) m, hzl]
  rw [e1]
  exact RowL.new w e _
theorem LL.makeE {x y : Operand} {l m : Nat} {zs : List Value} (I : ElT P T e z k bytes) (hzc : z.cells = zs.toArray) (hk : 0 < k) (ho : o.op = .makeSlice T x y) (hx : evM M x = some (.int .i64 (l : Int))) (hy : evM M y = some (.int .i64 (m : Int))) (hl : l ≤ m) (hb : bytes * m ≤ 281474976710656) (hn : m ≤ 9223372036854775807) (hd : dstB n o.dst = true) (hg : wantB ops M o.guard = some true)
    (c : ∀ w1 g, g = w.heap.size → RowL w1 g e (List.replicate m zs).flatten → w1.heap.size = g + 1 → Below w.heap.size w w1 → LL r P ops Q n D (putM M o.dst (.slice (some ⟨g, 0, none⟩) l m)) rest w1) : LL r P ops Q n D M (o :: rest) w := by
  obtain ⟨w', h1, h2, h3, h4⟩ := run_mkE I hzc hk l m hl hb hn w
  exact LL.val (R.make ho hx hy h1) hd (by rw [ho]; rfl) hg (c w' _ rfl h2 h4 h3)
/-- copy(d, s) of elements of many cells, into a row as long as what is copied. -/
theorem LL.copyE {xs : Array Operand} {dT sT : TypeId} {g : Nat} {p : Addr} {m dc sc : Nat} {row cs : List Value} (ho : o.op = .call { callee := .builtin .copy, args := xs, argTypes := #[dT, sT] }) (hx : evsM M xs.toList = some [.slice (some ⟨g, 0, none⟩) m dc, .slice (some p) m sc])
    (I : ElT P dT e z k bytes) (hr : RowL w g e row) (hcs : CellsN w p (m * k) cs) (hl : row.length = m * k) (h1 : ∀ v ∈ cs, v.oneCell' = true) (hd : dstB n o.dst = true) (hg : wantB ops M o.guard = some true)
    (c : ∀ w1, RowL w1 g e cs → w.grownBy w1 (some g) → w1.heap.size = w.heap.size → LL r P ops Q n D (putM M o.dst (.int .i64 (m : Int))) rest w1) : LL r P ops Q n D M (o :: rest) w := by
  obtain ⟨i, hi, hz, hsz, hby⟩ := I.info
  have hcl := hcs.len
  have hl1 := run_loadCells_list (P := P) w p cs hcs.at'
  rw [hcl] at hl1
  have hst := run_storeCells_at P g 0 e cs 0 row.toArray w hr (by simp; omega) h1
  have hrun : (Builtin.copy_ #[dT, sT] o.type #[.slice (some ⟨g, 0, none⟩) m dc, .slice (some p) m sc]).run P w = .ok (goInt m) (w.setRow g cs.toArray) := by
    have e1 : ((row.toArray.toList.take (0 + 0) ++ cs ++ row.toArray.toList.drop (0 + 0 + cs.length)).toArray : Array Value) = cs.toArray := by
      simp only [Nat.add_zero, List.take_zero, List.nil_append, Nat.zero_add, List.toList_toArray]
      rw [List.drop_of_length_le (by omega)]
      simp
    rw [e1] at hst
    simp [Builtin.copy_, run_underlying I.under, Builtin.lenOf, Builtin.firstCells, sizeOf, typeInfo, hi, hsz, hl1, hst]
  refine LL.val (v := .int .i64 (m : Int)) (R.builtin ho hx fun b => ?_) hd (by rw [ho]; rfl) hg (c _ (setRow_heap w g row.toArray _ e (0, 0) hr) (setRow_grown w g _) (by simp))
  unfold builtin
  simp only [Sem.run_bind, hrun, Result.andThen_ok, Sem.run_pure]
  rfl
theorem Enc.setN (E : Enc enc k) (ts : List α) (i c : Nat) (t u : α) (vs : List Value) (ht : ts[i]? = some t) (hc : c + vs.length ≤ k) (hu : enc u = (enc t).take c ++ vs ++ (enc t).drop (c + vs.length)) : (ts.flatMap enc).take (i * k + c) ++ vs ++ (ts.flatMap enc).drop (i * k + c + vs.length) = (ts.set i u).flatMap enc := by
  have hi : i < ts.length := (List.getElem?_eq_some_iff.1 ht).1
  have hlen := E.flat ts
  have hin : i * k + k ≤ ts.length * k := by
    have : (i + 1) * k ≤ ts.length * k := Nat.mul_le_mul_right _ hi
    rw [Nat.add_mul] at this
    omega
  have hself : ts.set i t = ts := by
    rw [List.getElem?_eq_getElem hi] at ht
    cases ht
    simp
  have h0 := E.set ts i t hi
  rw [hself] at h0
  have hA : ((ts.flatMap enc).take (i * k)).length = i * k := by rw [List.length_take]; omega
  have hel := E.len t
  rw [E.set ts i u hi, hu]
  have h1 : (ts.flatMap enc).take (i * k + c) = (ts.flatMap enc).take (i * k) ++ (enc t).take c := by
    conv => lhs; rw [h0]
    rw [List.append_assoc, List.take_append, hA, List.take_of_length_le (by omega), show i * k + c - i * k = c by omega, List.take_append_of_le_length (by omega)]
  have h2 : (ts.flatMap enc).drop (i * k + c + vs.length) = (enc t).drop (c + vs.length) ++ (ts.flatMap enc).drop (i * k + k) := by
    conv => lhs; rw [h0]
    rw [List.append_assoc, List.drop_append, hA, List.drop_of_length_le (l := (ts.flatMap enc).take (i * k)) (by omega), List.nil_append, show i * k + c + vs.length - i * k = c + vs.length by omega, List.drop_append_of_le_length (by omega)]
  rw [h1, h2]
  simp [List.append_assoc]
/-- A part of an element of a row, stored anew. -/
theorem LL.storeP {x y : Operand} {t : TypeId} {g off : Nat} {ts : List α} {vs : List Value} (i c : Nat) (s u : α) (ho : o.op = .store t x y) (hx : evM M x = some (.pointer (some ⟨g, off, none⟩))) (hy : evM M y = some (.agg vs.toArray)) (hz : szB P t = some vs.length) (hoff : off = i * k + c) (E : Enc enc k)
    (hr : RowL w g e (ts.flatMap enc)) (hs : ts[i]? = some s) (hc : c + vs.length ≤ k) (hu : enc u = (enc s).take c ++ vs ++ (enc s).drop (c + vs.length)) (h1 : ∀ v ∈ vs, v.oneCell' = true) (hd : o.dst = none) (hg : wantB ops M o.guard = some true)
    (kk : ∀ w', RowL w' g e ((ts.set i u).flatMap enc) → w.grownBy w' (some g) → w'.heap.size = w.heap.size → LL r P ops Q n D M rest w') : LL r P ops Q n D M (o :: rest) w := by
  have hi : i < ts.length := (List.getElem?_eq_some_iff.1 hs).1
  have hin : i * k + k ≤ ts.length * k := by
    have : (i + 1) * k ≤ ts.length * k := Nat.mul_le_mul_right _ hi
    rw [Nat.add_mul] at this
    omega
  have hf := E.flat ts
  subst hoff
  refine LL.storeN (vs := vs) ho hx hy hz hr (by omega) h1 hd hg ?_
  intro w' r' g' z'
  refine kk w' ?_ g' z'
  rw [← E.setN ts i c s u vs hs hc hu]
  exact r'
/-- A whole element of a row, stored anew. -/
theorem LL.storeR {x y : Operand} {t : TypeId} {g off : Nat} {ts : List α} (i : Nat) (u : α) (ho : o.op = .store t x y) (hx : evM M x = some (.pointer (some ⟨g, off, none⟩))) (hoff : off = i * k) (hy : evM M y = some (.agg (enc u).toArray)) (hz : szB P t = some k) (E : Enc enc k)
    (hr : RowL w g e (ts.flatMap enc)) (hi : i < ts.length) (hd : o.dst = none) (hg : wantB ops M o.guard = some true)
    (kk : ∀ w', RowL w' g e ((ts.set i u).flatMap enc) → w.grownBy w' (some g) → w'.heap.size = w.heap.size → LL r P ops Q n D M rest w') : LL r P ops Q n D M (o :: rest) w := by
  have hl := E.len u
  exact LL.storeP i 0 ts[i] u ho hx hy (by rw [hz, hl]) (by rw [hoff]; rfl) E hr (List.getElem?_eq_getElem hi) (by rw [hl]; omega) (by rw [List.take_zero, List.nil_append, List.drop_of_length_le (by rw [E.len, hl]; omega), List.append_nil]) (E.one u) hd hg kk
/-- One cell of an element of a row, stored anew. -/
theorem LL.store1 {x y : Operand} {t : TypeId} {g off : Nat} {ts : List α} {v : Value} (i c : Nat) (s u : α) (ho : o.op = .store t x y) (hx : evM M x = some (.pointer (some ⟨g, off, none⟩))) (hy : evM M y = some v) (hz : szB P t = some 1) (hoff : off = i * k + c) (E : Enc enc k)
    (hr : RowL w g e (ts.flatMap enc)) (hs : ts[i]? = some s) (hc : c < k) (hu : enc u = (enc s).set c v) (h1 : v.oneCell' = true) (hcs : v.cells = #[v]) (hd : o.dst = none) (hg : wantB ops M o.guard = some true)
    (kk : ∀ w', RowL w' g e ((ts.set i u).flatMap enc) → w.grownBy w' (some g) → w'.heap.size = w.heap.size → LL r P ops Q n D M rest w') : LL r P ops Q n D M (o :: rest) w := by
  have hi : i < ts.length := (List.getElem?_eq_some_iff.1 hs).1
  have hin : i * k + k ≤ ts.length * k := by
    have : (i + 1) * k ≤ ts.length * k := Nat.mul_le_mul_right _ hi
    rw [Nat.add_mul] at this
    omega
  have hf := E.flat ts
  subst hoff
  refine LL.store ho hx hy hz hr (by omega) h1 hcs hd hg ?_
  intro w' r' g' z'
  refine kk w' ?_ g' z'
  rw [← E.setF ts i c s u v hs hc hu]
  exact r'
/-- A part of an element of a slice of one's own, stored anew. -/
theorem LL.storeFs {x y : Operand} {t : TypeId} {base g off N cap : Nat} {ts : List α} {vs : List Value} (i c : Nat) (s u : α) (ho : o.op = .store t x y) (hx : evM M x = some (.pointer (some ⟨g, off, none⟩))) (hy : evM M y = some (.agg vs.toArray)) (hz : szB P t = some vs.length) (hoff : off = i * k + c) (E : Enc enc k)
    (hown : OwnsT enc k w base e (.slice (some ⟨g, 0, none⟩) N cap) ts) (hs : ts[i]? = some s) (hc : c + vs.length ≤ k) (hu : enc u = (enc s).take c ++ vs ++ (enc s).drop (c + vs.length)) (h1 : ∀ v ∈ vs, v.oneCell' = true) (hd : o.dst = none) (hg : wantB ops M o.guard = some true)
    (kk : ∀ w', OwnsT enc k w' base e (.slice (some ⟨g, 0, none⟩) N cap) (ts.set i u) → w.grownBy w' (some g) → w'.heap.size = w.heap.size → LL r P ops Q n D M rest w') : LL r P ops Q n D M (o :: rest) w := by
  rcases id hown.2 with ⟨e1, _⟩ | ⟨g', cap', cur, e1, hbg, hg', hnc, hcm, hcs', htake⟩
  · cases e1
  · cases e1
    have hrow : RowL w g e cur.toList := hg'
    have hi : i < ts.length := (List.getElem?_eq_some_iff.1 hs).1
    have hin : i * k + k ≤ ts.length * k := by
      have : (i + 1) * k ≤ ts.length * k := Nat.mul_le_mul_right _ hi
      rw [Nat.add_mul] at this
      omega
    have hck : ts.length * k ≤ cap * k := Nat.mul_le_mul_right _ hnc
    have hcl : cur.toList.length = cap * k := by simpa using hcs'
    have hf := E.flat ts
    subst hoff
    refine LL.storeN (vs := vs) ho hx hy hz hrow (by omega) h1 hd hg ?_
    intro w' r' g' z'
    refine kk w' ⟨E.flat _, .inr ⟨g, cap, _, by rw [List.length_set], hbg, r', by rw [List.length_set]; exact hnc, hcm, ?_, ?_⟩⟩ g' z'
    · simp only [List.size_toArray, List.length_append, List.length_take, List.length_drop, hcl]
      omega
    · rw [List.length_set, ← E.setN ts i c s u vs hs hc hu]
      have hcur : cur.toList = ts.flatMap enc ++ cur.toList.drop (ts.length * k) := by rw [← htake, List.take_append_drop]
      have hsp := set_part (ts.flatMap enc) (cur.toList.drop (ts.length * k)) vs (i * k + c) vs.length rfl (by omega)
      rw [← hcur, hf] at hsp
      simp only [List.toList_toArray]
      exact hsp
/-- A row that is made, as a slice of one's own without elements. -/
theorem RowL.own0 {g cap base : Nat} {xs : List Value} (h : RowL w g e xs) (hl : xs.length = cap * k) (hb : base ≤ g) (hc : cap ≤ maxLen) : OwnsT enc k w base e (.slice (some ⟨g, 0, none⟩) 0 cap) [] :=
  ⟨by simp, .inr ⟨g, cap, xs.toArray, rfl, hb, h, Nat.zero_le _, hc, by simpa using hl, by simp⟩⟩
theorem OwnsT.vlen {base m cap : Nat} {a : Option Addr} {ts : List α} (h : OwnsT enc k w base e (.slice a m cap) ts) : ts.length = m := by
  rcases h.2 with ⟨e1, h0⟩ | ⟨g', cap', cur, e1, _⟩
  · simp only [Value.slice.injEq] at e1
    omega
  · simp only [Value.slice.injEq] at e1
    exact e1.2.1.symm
/-- append(s, x...) where there is room. -/
theorem LL.appendF {xs : Array Operand} {base g m cap : Nat} {vx : Value} {ts us : List α} (ho : o.op = .call { callee := .builtin .append, args := xs, argTypes := #[T, T] }) (hx : evsM M xs.toList = some [.slice (some ⟨g, 0, none⟩) m cap, vx]) (E : Enc enc k) (I : ElT P T e z k bytes) (hown : OwnsT enc k w base e (.slice (some ⟨g, 0, none⟩) m cap) ts) (hr : ReadsT enc k w vx us)
    (l : Nat) (hlu : us.length = l) (hne : 0 < l) (hroom : m + l ≤ cap) (hd : dstB n o.dst = true) (hg : wantB ops M o.guard = some true)
    (c : ∀ w', OwnsT enc k w' base e (.slice (some ⟨g, 0, none⟩) (m + l) cap) (ts ++ us) → w.grownBy w' (some g) → LL r P ops Q n D (putM M o.dst (.slice (some ⟨g, 0, none⟩) (m + l) cap)) rest w') : LL r P ops Q n D M (o :: rest) w := by
  have hlen := hown.vlen
  obtain ⟨i, hi, hz, hsz, hby⟩ := I.info
  obtain ⟨a, cap2, rfl, hc, hcell⟩ := hr
  obtain ⟨b, off, rfl, _, hh⟩ := hcell (by rintro rfl; simp at hlu; omega)
  subst hlu
  have hnews : ∀ j u, (us.flatMap enc)[j]? = some u → w.cell? ((⟨b, off, none⟩ : Addr).add j) = some u := fun j u hj => by
    have hjl : j < us.length * k := by
      have := (List.getElem?_eq_some_iff.1 hj).1
      rwa [E.flat] at this
    rw [Addr.add_lit, hh j hjl, hj]
  have hown' : w.ownsRow base e k (.slice (some ⟨g, 0, none⟩) m cap) m (ts.flatMap enc) := by
    have := hown
    unfold OwnsT at this
    rwa [hlen] at this
  obtain ⟨w', h1, h2, h3⟩ := run_append_fits (P := P) (w := w) base T o.type e i k I.under hi hsz g m cap _ hown' ⟨b, off, none⟩ us.length cap2 (us.flatMap enc) (E.flat us) hnews (E.ones us) hroom
  refine LL.val (v := .slice (some ⟨g, 0, none⟩) (m + us.length) cap) (R.builtin ho hx fun b => ?_) hd (by rw [ho]; rfl) hg (c w' ?_ h3)
  · unfold builtin
    simp only [Sem.run_bind, h1, Result.andThen_ok, Sem.run_pure]
  · unfold OwnsT
    rw [List.length_append, hlen, List.flatMap_append]
    exact h2
/-- A store of all of a row. -/
theorem LL.storeAll {x y : Operand} {t : TypeId} {g m : Nat} {vs xs : List Value} (ho : o.op = .store t x y) (hx : evM M x = some (.pointer (some ⟨g, 0, none⟩))) (hy : evM M y = some (.agg vs.toArray)) (hz : szB P t = some m) (hl : vs.length = m) (hr : RowL w g e xs) (hxl : xs.length = m) (h1 : ∀ v ∈ vs, v.oneCell' = true) (hd : o.dst = none) (hg : wantB ops M o.guard = some true)
    (kk : ∀ w', RowL w' g e vs → w.grownBy w' (some g) → w'.heap.size = w.heap.size → LL r P ops Q n D M rest w') : LL r P ops Q n D M (o :: rest) w := by
  refine LL.storeN (vs := vs) ho hx hy (by rw [hz, hl]) hr (by omega) h1 hd hg ?_
  intro w' r' g' z'
  refine kk w' ?_ g' z'
  have e1 : xs.take 0 ++ vs ++ xs.drop (0 + vs.length) = vs := by
    rw [List.drop_of_length_le (by omega)]
    simp
  first
    | (rw [← e1]; exact r')
    | (have := r'; simp only [List.take_zero, List.nil_append, Nat.zero_add] at this; rw [List.drop_of_length_le (by omega), List.append_nil] at this; exact this)
end
end Go.Proofs.Ytloflmkolnediaa

/- Equal structs and arrays of integers, truth values, strings, and of such: cell by cell. Over any program. -/
namespace Go.Proofs.Ytloflmkolnediaa
set_option linter.unusedVariables false
set_option linter.unusedSimpArgs false
open Go.RowKit Go.Shelf
section
variable {P : Program}
def eqF (P : Program) (g : TypeId → List Value → List Value → Option (List Bool)) (xs ys : List Value) : List Field → Option (List Bool)
  | [] => some []
  | f :: fs => if f.name = "_" then none else match g f.type ((xs.drop f.offset).take (P.cellsOf f.type)) ((ys.drop f.offset).take (P.cellsOf f.type)), eqF P g xs ys fs with
    | some a, some b => some (a ++ b)
    | _, _ => none
def eqI (g : List Value → List Value → Option (List Bool)) (c : Nat) (xs ys : List Value) : List Nat → Option (List Bool)
  | [] => some []
  | i :: is => match g ((xs.drop (i * c)).take c) ((ys.drop (i * c)).take c), eqI g c xs ys is with
    | some a, some b => some (a ++ b)
    | _, _ => none
def eqC (P : Program) : Nat → TypeId → List Value → List Value → Option (List Bool)
  | 0, _, _, _ => none
  | d + 1, t, xs, ys => match P.underlying t with
    | some (.struct fs) => if P.stoodInHeld t = true then none else eqF P (eqC P d) xs ys fs.toList
    | some (.array n e) => if n = 0 then none else eqI (eqC P d e) (P.cellsOf e) xs ys (List.range n)
    | some (.int _) => match xs, ys with
      | [.int k a], [.int k' b] => if k = k' then some [decide (a = b)] else none
      | _, _ => none
    | some .bool => match xs, ys with
      | [.bool a], [.bool b] => some [a == b]
      | _, _ => none
    | some .string => match xs, ys with
      | [.string a], [.string b] => some [a.toList == b.toList]
      | _, _ => none
    | _ => none
def valC (P : Program) (t : TypeId) (xs : List Value) : Value := match P.underlying t with
  | some (.struct _) | some (.array _ _) => .agg xs.toArray
  | _ => xs.headD undef
theorem eqC_part {d : Nat} {t : TypeId} {xs ys : List Value} {off : Nat} {bs : List Bool} (h : eqC P d t ((xs.drop off).take (P.cellsOf t)) ((ys.drop off).take (P.cellsOf t)) = some bs) (w : World) :
    (part t xs.toArray off).run P w = .ok (valC P t ((xs.drop off).take (P.cellsOf t))) w ∧ (part t ys.toArray off).run P w = .ok (valC P t ((ys.drop off).take (P.cellsOf t))) w := by
  cases d with
  | zero => cases h
  | succ d =>
    have one : ∀ (zs : List Value) (v : Value), (zs.drop off).take (P.cellsOf t) = [v] → zs.toArray[off]? = some v := by
      intro zs v hz
      have : ((zs.drop off).take (P.cellsOf t))[0]? = some v := by rw [hz]; rfl
      rw [List.getElem?_take] at this
      split at this
      · simpa using this
      · cases this
    have agg : ∀ zs : List Value, zs.toArray.extract off (off + P.cellsOf t) = ((zs.drop off).take (P.cellsOf t)).toArray := by
      intro zs
      simp [List.extract]
    cases hu : P.underlying t with
    | none => simp [eqC, hu] at h
    | some kd =>
      obtain ⟨i, hi⟩ := info_of_underlying hu
      cases kd <;> simp only [eqC, hu] at h <;> try (cases h; done)
      case bool =>
        split at h
        · rename_i a b e1 e2
          rw [e1, e2]
          simp [part, isAgg, run_underlying hu, valC, hu, one xs _ e1, one ys _ e2]
        · cases h
      case int =>
        split at h
        · rename_i a b e1 e2
          rw [e1, e2]
          simp [part, isAgg, run_underlying hu, valC, hu, one xs _ e1, one ys _ e2]
        · cases h
      case string =>
        split at h
        · rename_i a b e1 e2
          rw [e1, e2]
          simp [part, isAgg, run_underlying hu, valC, hu, one xs _ e1, one ys _ e2]
        · cases h
      case struct fs => simp [part, isAgg, run_underlying hu, run_sizeOf _ hi, valC, hu, List.extract]
      case array n e => simp [part, isAgg, run_underlying hu, run_sizeOf _ hi, valC, hu, List.extract]
theorem fieldsOf_eq {t : TypeId} {fs : Array Field} (h : P.underlying t = some (.struct fs)) : P.fieldsOf t = fs := by simp [Program.fieldsOf, h]
theorem run_eqF {d dd : Nat} {xs ys : List Value} (IH : ∀ t xs ys bs w, eqC P d t xs ys = some bs → (Op.equalIn dd t (valC P t xs) (valC P t ys)).run P w = .ok (bs.all id) w) :
    ∀ (fs : List Field) (bs : List Bool) (w : World), eqF P (eqC P d) xs ys fs = some bs → (Op.eqFields dd xs.toArray ys.toArray fs).run P w = .ok (bs.all id) w
  | [], bs, w, h => by simp only [eqF, Option.some.injEq] at h; subst h; simp [Op.eqFields]
  | f :: fs, bs, w, h => by
    simp only [eqF] at h
    split at h
    · cases h
    rename_i hn
    split at h
    · rename_i a b h1 h2
      cases h
      obtain ⟨p1, p2⟩ := eqC_part h1 w
      simp only [Op.eqFields, ne_eq, hn, not_false_eq_true, if_true, Sem.run_bind, p1, p2, Result.andThen_ok, IH _ _ _ _ w h1, List.all_append]
      cases ha : a.all id
      · simp
      · simpa using run_eqF IH fs b w h2
    · cases h
theorem run_eqI {d dd : Nat} {e : TypeId} {xs ys : List Value} (IH : ∀ t xs ys bs w, eqC P d t xs ys = some bs → (Op.equalIn dd t (valC P t xs) (valC P t ys)).run P w = .ok (bs.all id) w) :
    ∀ (is : List Nat) (bs : List Bool) (w : World), eqI (eqC P d e) (P.cellsOf e) xs ys is = some bs → (Op.eqItems dd e (P.cellsOf e) xs.toArray ys.toArray is).run P w = .ok (bs.all id) w
  | [], bs, w, h => by simp only [eqI, Option.some.injEq] at h; subst h; simp [Op.eqItems]
  | i :: is, bs, w, h => by
    simp only [eqI] at h
    split at h
    · rename_i a b h1 h2
      cases h
      obtain ⟨p1, p2⟩ := eqC_part h1 w
      simp only [Op.eqItems, Sem.run_bind, p1, p2, Result.andThen_ok, IH _ _ _ _ w h1, List.all_append]
      cases ha : a.all id
      · simp
      · simpa using run_eqI IH is b w h2
    · cases h
theorem run_eqC : ∀ (d k : Nat) (t : TypeId) (xs ys : List Value) (bs : List Bool) (w : World), eqC P d t xs ys = some bs → (Op.equalIn (d + k) t (valC P t xs) (valC P t ys)).run P w = .ok (bs.all id) w
  | 0, _, _, _, _, _, _, h => by cases h
  | d + 1, k, t, xs, ys, bs, w, h => by
    have IH := fun t xs ys bs w => run_eqC d k t xs ys bs w
    rw [show d + 1 + k = (d + k) + 1 by omega]
    cases hu : P.underlying t with
    | none => simp [eqC, hu] at h
    | some kd =>
      cases kd <;> simp only [eqC, hu] at h <;> try (cases h; done)
      case bool =>
        split at h
        · rename_i a b
          cases h
          simp [valC, hu, run_equalIn_bool' w (d + k) t a b hu]
        · cases h
      case int q =>
        split at h
        · rename_i k1 a k2 b
          split at h
          · rename_i hk
            subst hk
            cases h
            simp only [valC, hu, List.headD_cons, List.all_cons, List.all_nil, Bool.and_true, id]
            exact run_equalIn_int w (d + k) t k1 q a b hu
          · cases h
        · cases h
      case string =>
        split at h
        · rename_i a b
          cases h
          simp [valC, hu, run_equalIn_string w (d + k) t a b hu]
        · cases h
      case struct fs =>
        split at h
        · cases h
        rename_i hst
        simp only [valC, hu]
        have hf := fieldsOf_eq hu
        rw [run_equalIn_struct w (d + k) t _ _ (by rw [hf]; exact hu) (by simpa using hst), hf]
        exact run_eqF IH _ _ _ h
      case array n e =>
        split at h
        · cases h
        rename_i hn0
        cases n with
        | zero => exact absurd rfl hn0
        | succ n =>
          have hi : ∃ i, P.info? e = some i := by
            rw [show List.range (n + 1) = 0 :: (List.range n).map Nat.succ by rw [List.range_succ_eq_map]] at h
            simp only [eqI] at h
            split at h
            · rename_i a b h1 h2
              cases d with
              | zero => cases h1
              | succ d =>
                cases hue : P.underlying e with
                | none => simp [eqC, hue] at h1
                | some _ => exact info_of_underlying hue
            · cases h
          obtain ⟨i, hi⟩ := hi
          simp only [valC, hu]
          rw [run_equalIn_array w (d + k) _ _ hu hi]
          exact run_eqI IH _ _ _ h
theorem valC_agg {t : TypeId} {xs : List Value} (h : aggB P t = true) : valC P t xs = .agg xs.toArray := by
  unfold aggB at h
  unfold valC
  split at h <;> first | rfl | simp_all
variable {n : Nat} {D : List Deferred} {M : Slots} {w : World} {o : Oper} {x y : Operand} {t u : TypeId} {xs ys : List Value} {bs : List Bool} {p : Prop} [Decidable p]
theorem R.eqBsS (ho : o.op = .binOp .eql t x y u) (hx : evM M x = some (.agg xs.toArray)) (hy : evM M y = some (.agg ys.toArray)) (ht : aggB P t = true) (hg : P.eqGuardType P.depth t = false) (hb : eqC P 9 t xs ys = some bs) (hp : bs.all id = decide p) : Runs P n D M o w (.value (.bool (decide p))) w := R.bin ho hx hy (by
  have h := run_eqC 9 9991 t xs ys bs w hb
  rw [valC_agg ht, valC_agg ht] at h
  simp only [Sem.run_bind, run_eqGuard_agg w _ _ _ _ _ _ hg, Result.andThen_ok, run_eql_struct]
  rw [show (10000 : Nat) = 9 + 9991 from rfl, h, hp]
  rfl)
theorem R.neS' (ho : o.op = .binOp .neq t x y u) (hx : evM M x = some (.agg xs.toArray)) (hy : evM M y = some (.agg ys.toArray)) (ht : aggB P t = true) (hg : P.eqGuardType P.depth t = false) (hb : eqC P 9 t xs ys = some bs) (hp : bs.all id = decide p) : Runs P n D M o w (.value (.bool (decide ¬p))) w := R.bin ho hx hy (by
  have h := run_eqC 9 9991 t xs ys bs w hb
  rw [valC_agg ht, valC_agg ht] at h
  simp only [Sem.run_bind, run_eqGuard_agg w _ _ _ _ _ _ hg, Result.andThen_ok, run_neq_struct]
  rw [show (10000 : Nat) = 9 + 9991 from rfl, h, hp]
  simp)
theorem R.eqST (ho : o.op = .binOp .eql t x y u) (hx : evM M x = some (.agg xs.toArray)) (hy : evM M y = some (.agg ys.toArray)) (ht : aggB P t = true) (hg : P.eqGuardType P.depth t = false) (hb : eqC P 9 t xs ys = some bs) (hp : bs.all id = decide p) (h : p) : Runs P n D M o w (.value (.bool true)) w := by
  have := R.eqBsS (w := w) (n := n) (D := D) ho hx hy ht hg hb hp
  rwa [decide_eq_true h] at this
theorem R.eqSF (ho : o.op = .binOp .eql t x y u) (hx : evM M x = some (.agg xs.toArray)) (hy : evM M y = some (.agg ys.toArray)) (ht : aggB P t = true) (hg : P.eqGuardType P.depth t = false) (hb : eqC P 9 t xs ys = some bs) (hp : bs.all id = decide p) (h : ¬p) : Runs P n D M o w (.value (.bool false)) w := by
  have := R.eqBsS (w := w) (n := n) (D := D) ho hx hy ht hg hb hp
  rwa [decide_eq_false h] at this
theorem R.neST (ho : o.op = .binOp .neq t x y u) (hx : evM M x = some (.agg xs.toArray)) (hy : evM M y = some (.agg ys.toArray)) (ht : aggB P t = true) (hg : P.eqGuardType P.depth t = false) (hb : eqC P 9 t xs ys = some bs) (hp : bs.all id = decide p) (h : p) : Runs P n D M o w (.value (.bool false)) w := by
  have := R.neS' (w := w) (n := n) (D := D) ho hx hy ht hg hb hp
  rwa [decide_eq_false (not_not_intro h)] at this
theorem R.neSF (ho : o.op = .binOp .neq t x y u) (hx : evM M x = some (.agg xs.toArray)) (hy : evM M y = some (.agg ys.toArray)) (ht : aggB P t = true) (hg : P.eqGuardType P.depth t = false) (hb : eqC P 9 t xs ys = some bs) (hp : bs.all id = decide p) (h : ¬p) : Runs P n D M o w (.value (.bool true)) w := by
  have := R.neS' (w := w) (n := n) (D := D) ho hx hy ht hg hb hp
  rwa [decide_eq_true h] at this
end
end Go.Proofs.Ytloflmkolnediaa

/- Arrays of numbers, in a row and as values. Over any program. -/
namespace Go.Proofs.Ytloflmkolnediaa
set_option linter.unusedVariables false
set_option linter.unusedSimpArgs false
open Go.RowKit Go.Shelf
/-- Whole numbers of a kind. -/
abbrev intsZ (k : IntKind) (ns : List Int) : List Value := ns.map fun z : Int => Value.int k z
section
variable {P : Program} {w w' : World} {t : TypeId} {o : Oper} {x y : Operand} {n : Nat} {D : List Deferred} {M : Slots} {r : Option Nat} {ops : Array Oper} {Q : Exit → Act → World → Prop} {rest : List Oper}
def avB (P : Program) (t : TypeId) (n : Nat) : Bool := match P.underlying t with
  | some (.array m e) => m == n && (P.plainKey e && (szB P e == some 1))
  | _ => false
theorem I.ixV {i : Nat} {cs : Array Value} {v : Value} (h : avB P t n = true) (hi : i < n) (hv : cs[i]? = some v) : (Instr.index t (.agg cs) (.int .i64 (i : Int))).run P w = .ok v w := by
  unfold avB at h
  cases hu : P.underlying t with
  | none => rw [hu] at h; cases h
  | some u =>
    rw [hu] at h
    cases u <;> try (cases h; done)
    rename_i m e
    simp only [Bool.and_eq_true, beq_iff_eq] at h
    obtain ⟨rfl, he, hz⟩ := h
    have h1 : (i : Int) < (m : Int) := by omega
    have := run_part_plain (P := P) w he hv
    simp [Instr.index, asIntOf, run_underlying hu, h1, size_of_sz hz, this]
    exact fun hh => absurd hi (by omega)
/-- An element of an array's value. -/
theorem R.ixZ {i m : Nat} {k : IntKind} {ns : List Int} {z : Int} (ho : o.op = .index t x y) (hx : evM M x = some (.agg (intsZ k ns).toArray)) (hy : evM M y = some (.int .i64 (i : Int))) (h : avB P t m = true) (hl : ns.length = m) (hv : ns[i]? = some z) : Runs P n D M o w (.value (.int k z)) w :=
  R.indexV ho hx hy (I.ixV h (by have := (List.getElem?_eq_some_iff.1 hv).1; omega) (by simp [hv]))
theorem R.ixVc {i m : Nat} {cs : Array Value} {v : Value} (hlit : Nat.ble i 18446744073709551616 = true) (ho : o.op = .index t x y) (hx : evM M x = some (.agg cs)) (hy : evM M y = some (.int .i64 (@OfNat.ofNat Int i instOfNat))) (hm : arB P t = some (m, 1)) (h : avB P t m = true) (hi : Nat.blt i m = true) (hv : cs[i]? = some v) : Runs P n D M o w (.value v) w :=
  R.indexV ho hx hy (I.ixV (i := i) h (by simpa [Nat.blt_eq] using hi) hv)
/-- All of an array's row. -/
theorem R.loadZ {g e m : Nat} {k : IntKind} {ns : List Int} (ho : o.op = .load t x) (hx : evM M x = some (.pointer (some ⟨g, 0, none⟩))) (hr : RowL w g e (intsZ k ns)) (ha : aggB P t = true) (hz : szB P t = some m) (hl : ns.length = m) : Runs P n D M o w (.value (.agg (intsZ k ns).toArray)) w :=
  R.load ho hx (I.ldNc (RowL.cells0 hr) ha (by rw [hz, List.length_map, hl]))
/-- A store into an array's row. -/
theorem LL.storeZ {g off e i : Nat} {k : IntKind} {ns : List Int} {z : Int} (ho : o.op = .store t x y) (hx : evM M x = some (.pointer (some ⟨g, off, none⟩))) (hoff : off = i) (hy : evM M y = some (.int k z)) (hz : szB P t = some 1) (hr : RowL w g e (intsZ k ns)) (hi : i < ns.length) (hd : o.dst = none) (hg : wantB ops M o.guard = some true)
    (kk : ∀ w', RowL w' g e (intsZ k (ns.set i z)) → w.grownBy w' (some g) → w'.heap.size = w.heap.size → LL r P ops Q n D M rest w') : LL r P ops Q n D M (o :: rest) w := by
  subst hoff
  refine LL.store ho hx hy hz hr (by rw [List.length_map]; exact hi) rfl rfl hd hg ?_
  intro w' r' g' z'
  refine kk w' ?_ g' z'
  rw [show intsZ k (ns.set off z) = (intsZ k ns).set off (.int k z) from List.map_set ..]
  exact r'
/-- A store of a whole array. -/
theorem LL.storeAZ {g e m : Nat} {k : IntKind} {ns : List Int} {xs : List Value} (ho : o.op = .store t x y) (hx : evM M x = some (.pointer (some ⟨g, 0, none⟩))) (hy : evM M y = some (.agg (intsZ k ns).toArray)) (hz : szB P t = some m) (hl : ns.length = m) (hr : RowL w g e xs) (hxl : xs.length = m) (hd : o.dst = none) (hg : wantB ops M o.guard = some true)
    (kk : ∀ w', RowL w' g e (intsZ k ns) → w.grownBy w' (some g) → w'.heap.size = w.heap.size → LL r P ops Q n D M rest w') : LL r P ops Q n D M (o :: rest) w := by
  refine LL.storeN (vs := intsZ k ns) ho hx hy (by rw [hz, List.length_map, hl]) hr (by rw [List.length_map]; omega) (fun u hu => by simp only [List.mem_map] at hu; obtain ⟨z, _, rfl⟩ := hu; rfl) hd hg ?_
  intro w' r' g' z'
  refine kk w' ?_ g' z'
  have e1 : xs.take 0 ++ (intsZ k ns) ++ xs.drop (0 + (intsZ k ns).length) = intsZ k ns := by
    rw [List.drop_of_length_le (by rw [List.length_map]; omega)]
    simp
  first
    | (rw [← e1]; exact r')
    | (have := r'; simp only [List.take_zero, List.nil_append, Nat.zero_add, List.length_map] at this; rw [List.drop_of_length_le (by omega), List.append_nil] at this; exact this)
theorem ZR.storeZ {ok : World → Prop} {j : Nat} {K : Slots → World → Prop} {g off e i : Nat} {k : IntKind} {ns : List Int} {z : Int} (hj : ops[j]? = some o) (ho : o.op = .store t x y) (hx : evM M x = some (.pointer (some ⟨g, off, none⟩))) (hoff : off = i) (hy : evM M y = some (.int k z)) (hz : szB P t = some 1) (hr : RowL w g e (intsZ k ns)) (hi : i < ns.length) (hd : o.dst = none) (hg : wantB ops M o.guard = some true)
    (kk : ∀ w', RowL w' g e (intsZ k (ns.set i z)) → w.grownBy w' (some g) → w'.heap.size = w.heap.size → ok w' ∧ K M w') : SR P ops ok j K n D M w := by
  subst hoff
  refine ZR.store hj ho hx hy hz hr (by rw [List.length_map]; exact hi) rfl rfl hd hg ?_
  intro w' r' g' z'
  refine kk w' ?_ g' z'
  rw [show intsZ k (ns.set off z) = (intsZ k ns).set off (.int k z) from List.map_set ..]
  exact r'
theorem ZR.storeAZ {ok : World → Prop} {j : Nat} {K : Slots → World → Prop} {g e m : Nat} {k : IntKind} {ns : List Int} {xs : List Value} (hj : ops[j]? = some o) (ho : o.op = .store t x y) (hx : evM M x = some (.pointer (some ⟨g, 0, none⟩))) (hy : evM M y = some (.agg (intsZ k ns).toArray)) (hz : szB P t = some m) (hl : ns.length = m) (hr : RowL w g e xs) (hxl : xs.length = m) (hd : o.dst = none) (hg : wantB ops M o.guard = some true)
    (kk : ∀ w', RowL w' g e (intsZ k ns) → w.grownBy w' (some g) → w'.heap.size = w.heap.size → ok w' ∧ K M w') : SR P ops ok j K n D M w := by
  refine ZR.storeN (vs := intsZ k ns) hj ho hx hy (by rw [hz, List.length_map, hl]) hr (by rw [List.length_map]; omega) (fun u hu => by simp only [List.mem_map] at hu; obtain ⟨z, _, rfl⟩ := hu; rfl) hd hg ?_
  intro w' r' g' z'
  refine kk w' ?_ g' z'
  have e1 : xs.take 0 ++ (intsZ k ns) ++ xs.drop (0 + (intsZ k ns).length) = intsZ k ns := by
    rw [List.drop_of_length_le (by rw [List.length_map]; omega)]
    simp
  rw [← e1]
  exact r'
theorem lvZ {g e m : Nat} {k : IntKind} {ns : List Int} (hr : RowL w g e (intsZ k ns)) (ha : aggB P t = true) (hz : szB P t = some m) (hl : ns.length = m) : (loadVar t ⟨g, 0, none⟩).run P w = .ok (.agg (intsZ k ns).toArray) w :=
  lvNc (RowL.cells0 hr) ha (by rw [hz, List.length_map, hl])
/-- A piece of an array as a slice. -/
theorem I.slAP {m k b off lo hi : Nat} (h : arB P t = some (m, k)) (h1 : lo ≤ hi) (h2 : hi ≤ m) : ∃ a, (∀ w : World, (Instr.sliceAt t (.pointer (some ⟨b, off, none⟩)) (some (.int .i64 (lo : Int))) (some (.int .i64 (hi : Int))) none).run P w = .ok (.slice (some a) (hi - lo) (m - lo)) w) ∧ (lo < hi → a = ⟨b, off + lo * k, none⟩) := by
  obtain ⟨e, hu, hz⟩ := ar_of h
  have h3 : (hi : Int) ≤ (m : Int) := by omega
  have h4 : (lo : Int) ≤ (hi : Int) := by omega
  refine ⟨if m = lo then ⟨b, off, none⟩ else (⟨b, off, none⟩ : Addr).add (lo * k), fun w => ?_, fun hlt => ?_⟩
  · unfold Instr.sliceAt Instr.sureAddr Instr.sliceBounds
    simp [run_underlying hu, run_sliceBound, size_of_sz hz, h3, h4]
  · rw [if_neg (by omega), add_plain]
end
end Go.Proofs.Ytloflmkolnediaa

/- Equal arrays of numbers. Over any program. -/
namespace Go.Proofs.Ytloflmkolnediaa
set_option linter.unusedVariables false
set_option linter.unusedSimpArgs false
open Go.RowKit Go.Shelf
section
variable {P : Program} {w : World} {n : Nat} {D : List Deferred} {M : Slots} {o : Oper} {x y : Operand} {t u : TypeId}
theorem eqI_ints {d : Nat} {e : TypeId} {k kk : IntKind} {xa xb : List Int} (he : P.underlying e = some (.int kk)) : ∀ (is : List Nat), (∀ i ∈ is, i < xa.length ∧ i < xb.length) →
    ∃ cs, eqI (eqC P (d + 1) e) 1 (intsZ k xa) (intsZ k xb) is = some cs ∧ (cs.all id = true ↔ ∀ i ∈ is, xa[i]? = xb[i]?)
  | [], _ => ⟨[], rfl, by simp⟩
  | i :: is, h => by
    obtain ⟨cs, h1, h2⟩ := eqI_ints (d := d) (k := k) he is fun j hj => h j (by simp [hj])
    obtain ⟨ha, hb⟩ := h i (by simp)
    have g : ∀ (zs : List Int) (hz : i < zs.length), ((intsZ k zs).drop (i * 1)).take 1 = [.int k zs[i]] := fun zs hz => by
      rw [Nat.mul_one, List.drop_eq_getElem_cons (by simpa using hz)]
      simp
    refine ⟨[decide (xa[i] = xb[i])] ++ cs, ?_, ?_⟩
    · simp only [eqI, g xa ha, g xb hb, h1]
      simp [eqC, he]
    · simp only [List.all_append, List.all_cons, List.all_nil, id, Bool.and_true, Bool.and_eq_true, decide_eq_true_eq, h2, List.mem_cons, forall_eq_or_imp]
      rw [List.getElem?_eq_getElem ha, List.getElem?_eq_getElem hb]
      simp
theorem eqC_ints {m : Nat} {e : TypeId} {k kk : IntKind} {xa xb : List Int} (hu : P.underlying t = some (.array m e)) (he : P.underlying e = some (.int kk)) (hc : P.cellsOf e = 1) (hm : m ≠ 0) (ha : xa.length = m) (hb : xb.length = m) : ∃ cs, eqC P 9 t (intsZ k xa) (intsZ k xb) = some cs ∧ cs.all id = decide (xa = xb) := by
  obtain ⟨cs, h1, h2⟩ := eqI_ints (P := P) (d := 7) (k := k) (xa := xa) (xb := xb) he (List.range m) fun i hi => by
    have := List.mem_range.1 hi
    omega
  refine ⟨cs, ?_, ?_⟩
  · show eqC P (8 + 1) t _ _ = _
    simp only [eqC, hu, hm, if_false, hc]
    exact h1
  · rw [Bool.eq_iff_iff, h2, decide_eq_true_eq]
    constructor
    · intro h
      refine List.ext_getElem? fun i => ?_
      by_cases hi : i < m
      · exact h i (List.mem_range.2 hi)
      · rw [List.getElem?_eq_none (by omega), List.getElem?_eq_none (by omega)]
    · rintro rfl i _
      rfl
theorem R.eqZT {m : Nat} {e : TypeId} {k kk : IntKind} {xa xb : List Int} (ho : o.op = .binOp .eql t x y u) (hx : evM M x = some (.agg (intsZ k xa).toArray)) (hy : evM M y = some (.agg (intsZ k xb).toArray)) (hu : P.underlying t = some (.array m e)) (he : P.underlying e = some (.int kk)) (hc : P.cellsOf e = 1) (hm : m ≠ 0) (ht : aggB P t = true) (hg : P.eqGuardType P.depth t = false) (ha : xa.length = m) (hb : xb.length = m) (h : xa = xb) : Runs P n D M o w (.value (.bool true)) w := by
  obtain ⟨cs, h1, h2⟩ := eqC_ints (k := k) hu he hc hm ha hb
  exact R.eqST ho hx hy ht hg h1 h2 h
theorem R.eqZF {m : Nat} {e : TypeId} {k kk : IntKind} {xa xb : List Int} (ho : o.op = .binOp .eql t x y u) (hx : evM M x = some (.agg (intsZ k xa).toArray)) (hy : evM M y = some (.agg (intsZ k xb).toArray)) (hu : P.underlying t = some (.array m e)) (he : P.underlying e = some (.int kk)) (hc : P.cellsOf e = 1) (hm : m ≠ 0) (ht : aggB P t = true) (hg : P.eqGuardType P.depth t = false) (ha : xa.length = m) (hb : xb.length = m) (h : xa ≠ xb) : Runs P n D M o w (.value (.bool false)) w := by
  obtain ⟨cs, h1, h2⟩ := eqC_ints (k := k) hu he hc hm ha hb
  exact R.eqSF ho hx hy ht hg h1 h2 h
theorem R.neZT {m : Nat} {e : TypeId} {k kk : IntKind} {xa xb : List Int} (ho : o.op = .binOp .neq t x y u) (hx : evM M x = some (.agg (intsZ k xa).toArray)) (hy : evM M y = some (.agg (intsZ k xb).toArray)) (hu : P.underlying t = some (.array m e)) (he : P.underlying e = some (.int kk)) (hc : P.cellsOf e = 1) (hm : m ≠ 0) (ht : aggB P t = true) (hg : P.eqGuardType P.depth t = false) (ha : xa.length = m) (hb : xb.length = m) (h : xa = xb) : Runs P n D M o w (.value (.bool false)) w := by
  obtain ⟨cs, h1, h2⟩ := eqC_ints (k := k) hu he hc hm ha hb
  exact R.neST ho hx hy ht hg h1 h2 h
theorem R.neZF {m : Nat} {e : TypeId} {k kk : IntKind} {xa xb : List Int} (ho : o.op = .binOp .neq t x y u) (hx : evM M x = some (.agg (intsZ k xa).toArray)) (hy : evM M y = some (.agg (intsZ k xb).toArray)) (hu : P.underlying t = some (.array m e)) (he : P.underlying e = some (.int kk)) (hc : P.cellsOf e = 1) (hm : m ≠ 0) (ht : aggB P t = true) (hg : P.eqGuardType P.depth t = false) (ha : xa.length = m) (hb : xb.length = m) (h : xa ≠ xb) : Runs P n D M o w (.value (.bool true)) w := by
  obtain ⟨cs, h1, h2⟩ := eqC_ints (k := k) hu he hc hm ha hb
  exact R.neSF ho hx hy ht hg h1 h2 h
end
end Go.Proofs.Ytloflmkolnediaa

/- append(l, make([]T, n)...): onto a slice of the call's own, of elements of one cell. Over any program. -/
namespace Go.Proofs.Ytloflmkolnediaa
set_option linter.unusedVariables false
set_option linter.unusedSimpArgs false
open Go.RowKit Go.Shelf
section
variable {P : Program} {w : World} {T TI e : TypeId} {z : Value} {bytes : Nat} {kn : IntKind}
theorem zeroCells_one (m : Nat) : (Builtin.zeroCells #[z] m).toList = List.replicate m z := by
  apply List.ext_getElem?
  intro j
  unfold Builtin.zeroCells
  simp only [List.size_toArray, List.length_cons, List.length_nil, Nat.zero_add, Nat.mul_one, Nat.mod_one, Array.toList_map, Array.toList_range, List.getElem?_map, List.getElem?_replicate]
  rcases Nat.lt_or_ge j m with h | h
  · simp [h]
  · simp [Nat.not_lt.2 h]
theorem run_append_zeros (I : El P T e z bytes) (htn : P.underlying TI = some (.int kn)) (hz1 : z.oneCell' = true) (ty : TypeId) {base n m : Nat} {v : Value} {xs : List Value} (hown : w.ownsRow base e 1 v n xs)
    (hm : 0 < m) (h63 : n + m ≤ maxLen) (hb : (n + m) * bytes ≤ 140737488355328) (hbase : base ≤ w.heap.size) :
    ∃ v' w', (Builtin.append_ #[T, TI] ty #[v, .int .i64 (m : Int)]).run P w = .ok v' w' ∧ w'.ownsRow base e 1 v' (n + m) (xs ++ List.replicate m z) ∧ w.grownBy w' v.ownBlock ∧ (v'.ownBlock = v.ownBlock ∨ v'.ownBlock = some w.heap.size) := by
  obtain ⟨i, hi, hz, hsize, hby⟩ := I.info
  have hsmall : n + m ≤ 9223372036854775807 := by simp only [maxLen] at h63; omega
  have hmb : m * bytes ≤ 140737488355328 := Nat.le_trans (Nat.mul_le_mul_right _ (by omega)) hb
  have hlen : (xs ++ List.replicate m z).length = (n + m) * 1 := by rw [List.length_append, hown.1, List.length_replicate]; omega
  have hzc : Builtin.zeroCells z.cells m = (List.replicate m z).toArray := by rw [I.one, ← zeroCells_one]
  have grown : ∀ (old : Nat), old < n + m → ∀ (row : Option Nat),
      (w.drew.alloc (.cells (xs.toArray ++ Builtin.zeroCells z.cells m ++ Builtin.zeroCells z.cells (grownCap w (n + m) old e - (n + m))) e)).ownsRow base e 1
        (.slice (some ⟨w.heap.size, 0, none⟩) (n + m) (grownCap w (n + m) old e)) (n + m) (xs ++ List.replicate m z) ∧
      w.grownBy (w.drew.alloc (.cells (xs.toArray ++ Builtin.zeroCells z.cells m ++ Builtin.zeroCells z.cells (grownCap w (n + m) old e - (n + m))) e)) row := by
    intro old ho row
    have hge := grownCap_ge w (n + m) old e
    have hcm : grownCap w (n + m) old e ≤ maxLen := grownCap_le_maxLen w (n + m) old e h63
    refine ⟨⟨hlen, .inr ⟨w.heap.size, _, _, rfl, hbase, heap_alloc_new w.drew _, hge, hcm, ?_, ?_⟩⟩, ⟨rfl, rfl, rfl, by simp, fun k hk _ => by first | exact heap_alloc_old w.drew _ k hk | exact heap_alloc_old w.drew _ hk⟩⟩
    · have := hown.1
      simp only [Array.size_append, List.size_toArray, size_zeroCells, I.one, List.length_cons, List.length_nil]
      omega
    · rw [hzc]
      simp only [Array.toList_append, List.toList_toArray]
      rw [← hlen]
      exact List.take_left
  rcases hown.2 with ⟨rfl, rfl⟩ | ⟨g, cap, cur, rfl, hbg, hg, hnc, hcm, hcs, htake⟩
  · have hx : xs = [] := List.eq_nil_of_length_eq_zero (by simpa using hown.1)
    subst hx
    have hr := Lib.run_append_nil_zeros (P := P) w T TI ty e i z .i64 kn I.under htn hi hz m hm (by omega) (by omega) (by rw [hby]; omega)
    have hgr := grown 0 (by omega) (Value.ownBlock (.slice none 0 0))
    simp only [Nat.zero_add, List.nil_append] at hgr ⊢
    refine ⟨_, _, hr, ?_, ?_, Or.inr rfl⟩
    · simpa using hgr.1
    · simpa using hgr.2
  · by_cases hroom : n + m ≤ cap
    · have hneg : ¬ ((m : Int) < 0) := by omega
      have hw : IntKind.i64.wrap (m : Int) = m := wrapI (by omega) (by omega)
      have hm0 : m ≠ 0 := by omega
      have h48i : ¬ (281474976710656 < (m : Int) * (i.bytes : Int)) := by
        rw [← Int.natCast_mul, hby]
        omega
      have hst := run_storeCells_at P g n e (List.replicate m z) 0 cur w hg (by simp; omega) (by intro u hu; rw [List.eq_of_mem_replicate hu]; exact hz1)
      simp only [Nat.add_zero, List.length_replicate] at hst
      refine ⟨.slice (some ⟨g, 0, none⟩) (n + m) cap, w.setRow g (cur.toList.take n ++ List.replicate m z ++ cur.toList.drop (n + m)).toArray, ?_, ?_, ?_, Or.inl rfl⟩
      · have h0 : ¬ (m * i.size = 0) := by rw [hsize]; omega
        simp [Builtin.append_, run_underlying I.under, run_underlying htn, sizeOf, typeInfo, zeroValue, hi, hz, asInt, asIntOf, hw, hneg, h48i, hsize, hm0, hroom, hzc, Addr.add_lit, hst]
      · refine ⟨hlen, .inr ⟨g, cap, _, rfl, hbg, setRow_heap w g cur _ e _ hg, hroom, hcm, ?_, ?_⟩⟩
        · simp only [List.size_toArray, List.length_append, List.length_take, List.length_drop, Array.length_toList, List.length_replicate]
          omega
        · rw [Nat.mul_one] at htake
          rw [htake, ← hlen]
          simp only [List.toList_toArray]
          exact List.take_left
      · exact ⟨rfl, rfl, rfl, by simp, fun k _ hk => setRow_other w g k _ (fun e => hk (by simp [Value.ownBlock, e]))⟩
    · have holds : ∀ j u, xs[j]? = some u → w.cell? ((⟨g, 0, none⟩ : Addr).add j) = some u := hown.cells (g := g) rfl
      have hold : (Builtin.firstCells i.size n (.slice (some ⟨g, 0, none⟩) n cap)).run P w.drew = .ok xs.toArray w.drew := by
        have := run_firstCells_some (P := P) w.drew i.size n ⟨g, 0, none⟩ n cap xs (by rw [hown.1, hsize]) holds
        exact this
      have hr := Lib.run_append_grow_zeros (P := P) w T TI ty e i z .i64 kn I.under htn hi hz (some ⟨g, 0, none⟩) n cap xs hold m hm (by omega) (by omega) (by omega) (by rw [hby]; omega) (by rw [hby]; exact growslice_fits (by omega) hb)
      have hgr := grown cap (by omega) (Value.ownBlock (.slice (some ⟨g, 0, none⟩) n cap))
      exact ⟨_, _, hr, hgr.1, hgr.2, Or.inr rfl⟩
theorem RowL.asInts {g n : Nat} {xs : List Value} (h : RowL w g e xs) (k : IntKind) (ws : List Nat) (hx : xs = ints k ws) (hn : ws.length = n) : Reads w (.slice (some ⟨g, 0, none⟩) n n) (ints k ws) := by
  subst hx
  have := h.reads ws.length (by simp)
  rw [List.length_map, hn] at this
  exact this
variable {o : Oper} {n : Nat} {D : List Deferred} {M : Slots} {r : Option Nat} {ops : Array Oper} {Q : Exit → Act → World → Prop} {rest : List Oper}
theorem LL.zeros {xs : Array Operand} {v : Value} {base m l : Nat} {us : List Value} (ho : o.op = .call { callee := .builtin .append, args := xs, argTypes := #[T, TI] }) (hx : evsM M xs.toList = some [v, .int .i64 (m : Int)]) (I : El P T e z bytes) (htn : P.underlying TI = some (.int kn)) (hz1 : z.oneCell' = true) (hown : w.ownsRow base e 1 v l us)
    (hm : 0 < m) (h63 : l + m ≤ maxLen) (hb : (l + m) * bytes ≤ 140737488355328) (hbase : base ≤ w.heap.size) (hd : dstB n o.dst = true) (hg : wantB ops M o.guard = some true)
    (c : ∀ v' w', w'.ownsRow base e 1 v' (l + m) (us ++ List.replicate m z) → w.grownBy w' v.ownBlock → (v'.ownBlock = v.ownBlock ∨ v'.ownBlock = some w.heap.size) → LL r P ops Q n D (putM M o.dst v') rest w') : LL r P ops Q n D M (o :: rest) w := by
  obtain ⟨v', w', h1, h2, h3, h4⟩ := run_append_zeros I htn hz1 o.type hown hm h63 hb hbase
  refine LL.val (v := v') (R.builtin ho hx fun b => ?_) hd (by rw [ho]; rfl) hg (c v' w' h2 h3 h4)
  unfold builtin
  simp only [Sem.run_bind, h1, Result.andThen_ok, Sem.run_pure]
end
end Go.Proofs.Ytloflmkolnediaa

/- Regions that draw their order: several steps that make memory, none of which harms what the others made: one goal for each step, not one for each order. -/
namespace Go.Proofs.Ytloflmkolnediaa
set_option linter.unusedVariables false
set_option linter.unusedSimpArgs false
open Go.RowKit Go.Shelf

/-- Each order goes through these steps, and ends with them all. -/
def meshB (ops : Array Oper) (acts : List Nat) (L1 : Array Bool) : Nat → Array Bool → Bool
  | 0, listed => listed == L1
  | k + 1, listed => match Region.ready .any ops listed with
    | [] => false
    | r => r.all fun i => acts.contains i && meshB ops acts L1 k (listed.setIfInBounds i true)
def dstO (ops : Array Oper) (i : Nat) : Option Nat := (ops[i]?).bind (·.dst)
/-- Steps write to slots of their own. -/
def ownB (ops : Array Oper) (L : List (Nat × Value)) : List Nat → Bool
  | [] => true
  | i :: is => (match dstO ops i with | some d => (L.all fun x => !Nat.beq x.1 d) && is.all (fun j => match dstO ops j with | some e => !Nat.beq e d | none => true) | none => true) && (ops[i]?).isSome && ownB ops L is
def depB (ops : Array Oper) (i j : Nat) : Bool := match ops[i]? with
  | some o => o.after.any fun e => Region.binds .any e && Nat.beq e.on j
  | none => false
def AtD (d : Option Nat) (a : Act) (v : Value) : Prop := ∀ s, d = some s → a.tmps.getD s undef = v

/-- One step: what it needs of the others, what it makes. -/
structure MS (P : Program) (ops : Array Oper) (ok : World → Prop) (acts : List Nat) (φ : Nat → Value → World → Prop) (i : Nat) (R : Value → World → Prop) (n : Nat) (D : List Deferred) (M : Slots) (w : World) : Prop where
  h : ∀ a o, ops[i]? = some o → Fr n D M a → (∀ j ∈ acts, depB ops i j = true → ∃ v, AtD (dstO ops j) a v ∧ φ j v w) → ∀ K : Act → World → Prop, (∀ v w', ok w' → R v w' → K (a.put o.dst v) w') → stepR P ops ok i K a w

section
variable {P : Program} {ops : Array Oper} {Q : Exit → Act → World → Prop} {ok : World → Prop} {acts : List Nat} {φ : Nat → Value → World → Prop} {n i : Nat} {D : List Deferred} {M : Slots} {w w' : World} {o : Oper} {v : Value} {R : Value → World → Prop}
theorem Fr.more {a : Act} (F : Fr n D M a) {d : Nat} (h : a.tmps.getD d undef = v) : Fr n D (up M d v) a := ⟨F.size, F.defers, fun s u hs => by
  simp only [up] at hs
  by_cases e : s = d
  · subst e; rw [Nat.beq_refl] at hs; cases hs; exact h
  · rw [beq_ne e] at hs; exact F.get s u hs⟩
/-- What another step made. -/
theorem MS.dep (j : Nat) {d : Nat} (hj : acts.contains j = true) (hd : depB ops i j = true) (hs : dstO ops j = some d) (k : ∀ v, φ j v w → MS P ops ok acts φ i R n D (up M d v) w) : MS P ops ok acts φ i R n D M w := MS.mk fun a o ho F hf K hK => by
  obtain ⟨v, h1, h2⟩ := hf j (by simpa using hj) hd
  exact (k v h2).h a o ho (F.more (h1 d hs)) hf K hK
theorem MS.val (hi : ops[i]? = some o) (hr : Runs P n D M o w (.value v) w') (hg : wantB ops M o.guard = some true) (hok : ok w') (h : R v w') : MS P ops ok acts φ i R n D M w := MS.mk fun a o' ho F _ K hK => by
  obtain rfl : o = o' := Option.some.inj (hi.symm.trans ho)
  unfold stepR
  simp only [hi]
  rw [if_pos (F.want hg)]
  exact .inl ⟨v, w', hr a F, hok, hK _ _ hok h⟩
theorem MS.call {g : FuncId} {args : Array Value} {R' : Ending → World → Prop} (hi : ops[i]? = some o) (hr : Runs P n D M o w (.enter g args) w) (hg : wantB ops M o.guard = some true) (hc : Calls P g args w R') (k : ∀ e w'', R' e w'' → ∃ v, e = .returned v ∧ ok w'' ∧ R v w'') : MS P ops ok acts φ i R n D M w := MS.mk fun a o' ho F _ K hK => by
  obtain rfl : o = o' := Option.some.inj (hi.symm.trans ho)
  unfold stepR
  simp only [hi]
  rw [if_pos (F.want hg)]
  exact .inr (.inr ⟨g, args, w, R', hr a F, hc, fun e w'' hR => by
    obtain ⟨v, he, h1, h2⟩ := k e w'' hR
    exact ⟨v, he, h1, hK _ _ h1 h2⟩⟩)

theorem meshB_ready {L1 : Array Bool} {k : Nat} {listed : Array Bool} (h : meshB ops acts L1 (k + 1) listed = true) : Region.ready .any ops listed ≠ [] ∧ ∀ j ∈ Region.ready .any ops listed, j ∈ acts ∧ meshB ops acts L1 k (listed.setIfInBounds j true) = true := by
  unfold meshB at h
  split at h
  · cases h
  · rename_i hne
    refine ⟨fun e => hne e, fun j hj => ?_⟩
    have := List.all_eq_true.1 h j hj
    simp only [Bool.and_eq_true] at this
    exact ⟨by simpa using this.1, this.2⟩
theorem ownB_get {L : List (Nat × Value)} : ∀ {is : List Nat}, ownB ops L is = true → ∀ j ∈ is, (∃ o, ops[j]? = some o) ∧ ∀ d, dstO ops j = some d → (∀ x ∈ L, x.1 ≠ d) ∧ ∀ j' ∈ is, j' ≠ j → dstO ops j' ≠ some d
  | [], _, j, hj => by cases hj
  | i :: is, h, j, hj => by
    simp only [ownB, Bool.and_eq_true] at h
    obtain ⟨⟨h1, h2⟩, h3⟩ := h
    rcases List.mem_cons.1 hj with rfl | hj'
    · refine ⟨Option.isSome_iff_exists.1 h2, fun d hd => ?_⟩
      rw [hd] at h1
      simp only [Bool.and_eq_true, List.all_eq_true] at h1
      refine ⟨fun x hx e => ?_, fun j' hj' hne e => ?_⟩
      · have := h1.1 x hx
        rw [e, Nat.beq_refl] at this
        cases this
      · rcases List.mem_cons.1 hj' with rfl | hj''
        · exact hne rfl
        · have := h1.2 j' hj''
          simp only [e, Nat.beq_refl] at this
          cases this
    · have ih := ownB_get h3 j hj'
      refine ⟨ih.1, fun d hd => ⟨(ih.2 d hd).1, fun j' hj'' hne e => ?_⟩⟩
      rcases List.mem_cons.1 hj'' with rfl | hj3
      · rw [e] at h1
        simp only [Bool.and_eq_true, List.all_eq_true] at h1
        have := h1.2 j hj'
        simp only [hd, Nat.beq_refl] at this
        cases this
      · exact (ih.2 d hd).2 j' hj3 hne e
theorem sl_mem : ∀ {L : List (Nat × Value)} {s : Nat} {v : Value}, sl L s = some v → ∃ x ∈ L, x.1 = s
  | [], s, v, h => by cases h
  | (t, u) :: l, s, v, h => by
    simp only [sl] at h
    by_cases e : s = t
    · exact ⟨(t, u), List.mem_cons_self .., e.symm⟩
    · rw [beq_ne e] at h
      obtain ⟨x, hx, hxs⟩ := sl_mem h
      exact ⟨x, List.mem_cons_of_mem _ hx, hxs⟩
theorem getD_tf {listed : Array Bool} {j : Nat} (h : listed.getD j false = true) : listed.getD j true = true := by
  rw [Array.getD_eq_getD_getElem?] at *
  cases hj : listed[j]? with
  | none => rfl
  | some b => rw [hj] at h; exact h
theorem getD_put_ne {a : Act} {d s : Nat} {v : Value} (h : s ≠ d) : (a.put (some d) v).tmps.getD s undef = a.tmps.getD s undef := by
  simp [Act.put, Array.getD_eq_getD_getElem?, Array.getElem?_setIfInBounds, Ne.symm h]
theorem getD_put_self {a : Act} {d : Nat} {v : Value} (h : d < a.tmps.size) : (a.put (some d) v).tmps.getD d undef = v := by
  simp [Act.put, Array.getD_eq_getD_getElem?, h]

/-- With what the steps made. -/
def actM (ops : Array Oper) (M : Slots) (vs : Nat → Value) : List Nat → Slots
  | [] => M
  | j :: js => match dstO ops j with | some d => up (actM ops M vs js) d (vs j) | none => actM ops M vs js
theorem Fr.withM {a : Act} {vs : Nat → Value} (F : Fr n D M a) : ∀ {is : List Nat}, (∀ j ∈ is, AtD (dstO ops j) a (vs j)) → Fr n D (actM ops M vs is) a
  | [], _ => F
  | j :: js, h => by
    have ih := Fr.withM F (fun i hi => h i (List.mem_cons_of_mem _ hi))
    unfold actM
    cases hd : dstO ops j with
    | none => exact ih
    | some d => exact ih.more (h j (List.mem_cons_self ..) d hd)
theorem AA.mesh {L : List (Nat × Value)} {listed : Array Bool} (stab : World → World → Prop) (acts : List Nat) (φ : Nat → Value → World → Prop) (k f1 : Nat) (L1 : Array Bool) (hL : Fits M L) (hB : meshB ops acts L1 k listed = true) (hO : ownB ops L acts = true) (hN : acts.all (fun i => dstB n (dstO ops i)) = true) (h0 : acts.all (fun i => !listed.getD i true) = true) (hA : acts.all (fun i => L1.getD i true) = true) (hok : ok w)
    (hst : ∀ j v w w', φ j v w → stab w w' → φ j v w')
    (hstep : ∀ i ∈ acts, ∀ w, ok w → MS P ops ok acts φ i (fun v w' => stab w w' ∧ φ i v w') n D (sl L) w)
    (rest : ∀ w', ok w' → ∀ vs : Nat → Value, (∀ j ∈ acts, φ j (vs j) w') → AA P ops ok Q n D (actM ops (sl L) vs acts) f1 L1 w') : AA P ops ok Q n D M (k + f1) listed w := AA.mk fun a F => by
  have key : ∀ k listed a w, meshB ops acts L1 k listed = true → Fr n D (sl L) a → ok w → (∀ j ∈ acts, listed.getD j true = true → ∃ v, AtD (dstO ops j) a v ∧ φ j v w) → (∀ j ∈ acts, L1.getD j true = true) → AnyR P ops ok Q (k + f1) listed a w := by
    intro k
    induction k with
    | zero =>
      intro listed a w hB F hok hf hall
      have hl : listed = L1 := by simpa [meshB] using hB
      subst hl
      rw [Nat.zero_add]
      have hv : ∀ j, ∃ v, j ∈ acts → AtD (dstO ops j) a v ∧ φ j v w := fun j => by
        by_cases hj : j ∈ acts
        · obtain ⟨v, h⟩ := hf j hj (hall j hj)
          exact ⟨v, fun _ => h⟩
        · exact ⟨undef, fun h => absurd h hj⟩
      exact (rest w hok (fun j => Classical.choose (hv j)) (fun j hj => (Classical.choose_spec (hv j) hj).2)).h a (Fr.withM F fun j hj => (Classical.choose_spec (hv j) hj).1)
    | succ k ih =>
      intro listed a w hB F hok hf hall
      obtain ⟨hne, hr⟩ := meshB_ready hB
      rw [show k + 1 + f1 = (k + f1) + 1 by omega]
      refine ⟨fun h => absurd h hne, fun i hi => ?_⟩
      obtain ⟨hia, hBi⟩ := hr i hi
      obtain ⟨⟨o, ho⟩, hd⟩ := ownB_get hO i hia
      obtain ⟨_, oi, hoi, hall2⟩ := mem_ready.1 hi
      obtain rfl : o = oi := Option.some.inj (ho.symm.trans hoi)
      have hdn : ∀ d, o.dst = some d → d < n := fun d e => by
        have h1 := List.all_eq_true.1 hN i hia
        have e2 : dstO ops i = some d := by unfold dstO; rw [ho]; exact e
        rw [e2] at h1
        simpa [dstB] using h1
      refine (hstep i hia w hok).h a o ho F (fun j hj hdep => ?_) _ fun v w' hok' ⟨hs', hφ'⟩ => ih _ _ _ hBi ?_ hok' ?_ hall
      · refine hf j hj ?_
        unfold depB at hdep
        rw [ho] at hdep
        obtain ⟨e, he, hb⟩ := Array.any_eq_true'.1 hdep
        simp only [Bool.and_eq_true] at hb
        have := hall2 e he hb.1
        rw [Nat.eq_of_beq_eq_true hb.2] at this
        exact getD_tf this
      · cases hod : o.dst with
        | none => exact F
        | some d =>
          have hdd := hd d (by unfold dstO; rw [ho]; exact hod)
          refine ⟨by simp [Act.put, F.size], F.defers, fun s u hsu => ?_⟩
          obtain ⟨x, hx, hxs⟩ := sl_mem hsu
          rw [getD_put_ne (by rw [← hxs]; exact hdd.1 x hx)]
          exact F.get s u hsu
      · intro j hj hlj
        by_cases hji : j = i
        · subst hji
          refine ⟨v, fun s hs => ?_, hφ'⟩
          have hs2 : o.dst = some s := by unfold dstO at hs; rw [ho] at hs; exact hs
          rw [hs2]
          exact getD_put_self (by rw [F.size]; exact hdn s hs2)
        · have hlj' : listed.getD j true = true := by rwa [getD_set_ne true (Ne.symm hji)] at hlj
          obtain ⟨u, h1, h2⟩ := hf j hj hlj'
          refine ⟨u, fun s hs => ?_, hst j u w w' h2 hs'⟩
          cases hod : o.dst with
          | none => exact h1 s hs
          | some d =>
            have hdd := hd d (by unfold dstO; rw [ho]; exact hod)
            have hsd : s ≠ d := fun e => hdd.2 j hj hji (by rw [hs, e])
            rw [getD_put_ne hsd]
            exact h1 s hs
  have hall : ∀ j ∈ acts, L1.getD j true = true := fun j hj => List.all_eq_true.1 hA j hj
  refine key k listed a w hB (F.keep L hL) hok (fun j hj hl => ?_) hall
  have := List.all_eq_true.1 h0 j hj
  rw [hl] at this
  cases this
end
end Go.Proofs.Ytloflmkolnediaa

/- append to a slice of structs without room, told that no row that was there is written; the steps of drawn regions that make memory. -/
namespace Go.Proofs.Ytloflmkolnediaa
set_option linter.unusedVariables false
set_option linter.unusedSimpArgs false
open Go.RowKit Go.Shelf

section
variable {α : Type} {enc : α → List Value} {k : Nat} {P : Program} {T e : TypeId} {z : Value} {bytes : Nat}
theorem run_append_t0 (E : Enc enc k) (I : ElT P T e z k bytes) (ty : TypeId) {base g : Nat} {vx : Value} {us : List α} {w : World} (hown : OwnsT enc k w base e (.slice (some ⟨g, 0, none⟩) 0 0) []) (hr : ReadsT enc k w vx us)
    (h63 : us.length ≤ maxLen) (hb : us.length * bytes ≤ 140737488355328) (hbase : base ≤ w.heap.size) :
    ∃ v' w', (Builtin.append_ #[T, T] ty #[.slice (some ⟨g, 0, none⟩) 0 0, vx]).run P w = .ok v' w' ∧ OwnsT enc k w' base e v' us ∧ Below w.heap.size w w' := by
  obtain ⟨i, hi, hz, hsz, hby⟩ := I.info
  obtain ⟨a, cap, rfl, hc, hcell⟩ := hr
  rcases Classical.em (us = []) with h0 | h0
  · subst h0
    refine ⟨_, w, run_append_nothing w T T ty e i I.under hi _ 0 0 (Nat.le_refl _) _ ?_, hown, Below.refl _ _⟩
    cases a with
    | none => exact Src.ofNil w I.under cap
    | some p => exact Src.ofSlice w I.under p 0 cap [] (by simp) (by simp) (by simp)
  · obtain ⟨b, off, rfl, _, hh⟩ := hcell h0
    have hnews : ∀ j u, (us.flatMap enc)[j]? = some u → w.cell? ((⟨b, off, none⟩ : Addr).add j) = some u := fun j u hj => by
      have hjl : j < us.length * k := by
        have := (List.getElem?_eq_some_iff.1 hj).1
        rwa [E.flat] at this
      rw [Addr.add_lit, hh j hjl, hj]
    obtain ⟨v', w', h1, h2, h3⟩ := run_append_arg_grows (P := P) (w := w) T ty e i z k bytes I.under hi hz hsz hby I.many E.pos ⟨g, 0, none⟩ 0 0 [] (by simp) (by simp) ⟨b, off, none⟩ us.length cap (us.flatMap enc) (E.flat us) hnews (by have := List.length_pos_iff.2 h0; omega) (by omega) (by simpa using hb)
    refine ⟨v', w', h1, ?_, ⟨h3.os, h3.tape, h3.output, h3.size, fun j hj => h3.block j hj (by simp)⟩⟩
    have h4 : OwnsT enc k w' w.heap.size e v' us := by
      unfold OwnsT
      simpa using h2
    exact h4.lower hbase
end

section
variable {α : Type} {enc : α → List Value} {k : Nat} {P : Program} {ops : Array Oper} {Q : Exit → Act → World → Prop} {ok : World → Prop} {acts : List Nat} {φ : Nat → Value → World → Prop} {n i f : Nat} {D : List Deferred} {M : Slots} {w w' : World} {o : Oper} {v : Value} {Rv : Value → World → Prop} {T e t : TypeId} {z : Value} {bytes : Nat} {listed listed1 : Array Bool} {K : Slots → World → Prop} {r : Option Nat} {rest : List Oper}
theorem LL.append0 {xs : Array Operand} {g base : Nat} {vx : Value} {us : List α} (ho : o.op = .call { callee := .builtin .append, args := xs, argTypes := #[T, T] }) (hx : evsM M xs.toList = some [.slice (some ⟨g, 0, none⟩) 0 0, vx]) (E : Enc enc k) (I : ElT P T e z k bytes) (hown : OwnsT enc k w base e (.slice (some ⟨g, 0, none⟩) 0 0) []) (hr : ReadsT enc k w vx us)
    (h63 : us.length ≤ maxLen) (hb : us.length * bytes ≤ 140737488355328) (hbase : base ≤ w.heap.size) (hd : dstB n o.dst = true) (hg : wantB ops M o.guard = some true)
    (c : ∀ v' w', OwnsT enc k w' base e v' us → Below w.heap.size w w' → LL r P ops Q n D (putM M o.dst v') rest w') : LL r P ops Q n D M (o :: rest) w := by
  obtain ⟨v', w', h1, h2, h3⟩ := run_append_t0 E I o.type hown hr h63 hb hbase
  refine LL.val (v := v') (R.builtin ho hx fun b => ?_) hd (by rw [ho]; rfl) hg (c v' w' h2 h3)
  unfold builtin
  simp only [Sem.run_bind, h1, Result.andThen_ok, Sem.run_pure]
theorem MS.append0 {xs : Array Operand} {g base : Nat} {vx : Value} {us : List α} (hi : ops[i]? = some o) (ho : o.op = .call { callee := .builtin .append, args := xs, argTypes := #[T, T] }) (hx : evsM M xs.toList = some [.slice (some ⟨g, 0, none⟩) 0 0, vx]) (E : Enc enc k) (I : ElT P T e z k bytes) (hown : OwnsT enc k w base e (.slice (some ⟨g, 0, none⟩) 0 0) []) (hr : ReadsT enc k w vx us)
    (h63 : us.length ≤ maxLen) (hb : us.length * bytes ≤ 140737488355328) (hbase : base ≤ w.heap.size) (hg : wantB ops M o.guard = some true)
    (c : ∀ v' w', OwnsT enc k w' base e v' us → Below w.heap.size w w' → ok w' ∧ Rv v' w') : MS P ops ok acts φ i Rv n D M w := by
  obtain ⟨v', w', h1, h2, h3⟩ := run_append_t0 E I o.type hown hr h63 hb hbase
  have h := c v' w' h2 h3
  refine MS.val (v := v') hi (R.builtin ho hx fun b => ?_) hg h.1 h.2
  unfold builtin
  simp only [Sem.run_bind, h1, Result.andThen_ok, Sem.run_pure]
theorem MS.lit {ps : Array (Nat × Operand)} {m : Nat} {vs : List (Nat × Value)} (cs : List Value) (len : Nat) (hi : ops[i]? = some o) (ho : o.op = .buildSlice t m ps) (hx : evpM M ps.toList = some vs) (hr : ∀ w, (Instr.buildSlice t m vs.toArray).run P w = .ok (.slice (some ⟨w.heap.size, 0, none⟩) len len) (w.alloc (.cells cs.toArray e))) (hg : wantB ops M o.guard = some true)
    (c : ∀ w1 g, g = w.heap.size → RowL w1 g e cs → Below w.heap.size w w1 → ok w1 ∧ Rv (.slice (some ⟨g, 0, none⟩) len len) w1) : MS P ops ok acts φ i Rv n D M w :=
  have h := c _ _ rfl (RowL.new w e cs) (Below.alloc0 w _)
  MS.val hi (R.buildSlice ho hx (hr w)) hg h.1 h.2
theorem AA.weak {L : List (Nat × Value)} (h : AA P ops ok Q n D (sl L) f listed1 w) (hL : Fits M L) (he : listed1 = listed) : AA P ops ok Q n D M f listed w := by
  subst he; exact AA.mk fun a F => h.h a (F.keep L hL)
theorem SR.lit {ps : Array (Nat × Operand)} {m : Nat} {vs : List (Nat × Value)} (cs : List Value) (len : Nat) (hi : ops[i]? = some o) (ho : o.op = .buildSlice t m ps) (hx : evpM M ps.toList = some vs) (hr : ∀ w, (Instr.buildSlice t m vs.toArray).run P w = .ok (.slice (some ⟨w.heap.size, 0, none⟩) len len) (w.alloc (.cells cs.toArray e))) (hd : dstB n o.dst = true) (hg : wantB ops M o.guard = some true)
    (c : ∀ w1 g, g = w.heap.size → RowL w1 g e cs → Below w.heap.size w w1 → ok w1 ∧ K (putM M o.dst (.slice (some ⟨g, 0, none⟩) len len)) w1) : SR P ops ok i K n D M w :=
  have h := c _ _ rfl (RowL.new w e cs) (Below.alloc0 w _)
  SR.val hi (R.buildSlice ho hx (hr w)) hd hg h.1 h.2
theorem SR.appendT2 {xs : Array Operand} {vx : Value} {base : Nat} {ts us : List α} (hi : ops[i]? = some o) (ho : o.op = .call { callee := .builtin .append, args := xs, argTypes := #[T, T] }) (hx : evsM M xs.toList = some [v, vx]) (E : Enc enc k) (I : ElT P T e z k bytes) (hown : OwnsT enc k w base e v ts) (hr : ReadsT enc k w vx us)
    (h63 : ts.length + us.length ≤ maxLen) (hb : (ts.length + us.length) * bytes ≤ 140737488355328) (hbase : base ≤ w.heap.size) (hd : dstB n o.dst = true) (hg : wantB ops M o.guard = some true)
    (c : ∀ v' w', OwnsT enc k w' base e v' (ts ++ us) → w.grownBy w' v.ownBlock → (v'.ownBlock = v.ownBlock ∨ ∃ b, v'.ownBlock = some b ∧ w.heap.size ≤ b) → ok w' ∧ K (putM M o.dst v') w') : SR P ops ok i K n D M w := by
  obtain ⟨v', w', h1, h2, h3, h4⟩ := run_append_t2 E I o.type hown hr h63 hb hbase
  have h := c v' w' h2 h3 h4
  refine SR.val (v := v') hi (R.builtin ho hx fun b => ?_) hd hg h.1 h.2
  unfold builtin
  simp only [Sem.run_bind, h1, Result.andThen_ok, Sem.run_pure]
/-- A store of one cell into a row that is known, as a step of a drawn region. -/
theorem SR.store {x y : Operand} {g off e : Nat} {xs : List Value} (hi : ops[i]? = some o) (ho : o.op = .store t x y) (hx : evM M x = some (.pointer (some ⟨g, off, none⟩))) (hy : evM M y = some v) (hz : szB P t = some 1) (hr : RowL w g e xs) (hl : off < xs.length) (h1 : v.oneCell' = true) (hcs : v.cells = #[v]) (hd : o.dst = none) (hg : wantB ops M o.guard = some true)
    (c : ∀ w1, RowL w1 g e (xs.set off v) → w.grownBy w1 (some g) → w1.heap.size = w.heap.size → ok w1 ∧ K M w1) : SR P ops ok i K n D M w := SR.mk fun K' hK a F => by
  have h := c _ (hr.set off v) (grown_set w _ v) (by simp [World.setCell])
  unfold stepR
  simp only [hi]
  rw [if_pos (F.want hg)]
  refine .inr (.inl ⟨_, R.store ho hx hy (I.st1R hz hr hl h1 hcs) a F, h.1, ?_⟩)
  rw [hd]
  exact hK _ _ h.2 _ F
end
end Go.Proofs.Ytloflmkolnediaa

/- Maps whose keys are plain: what a block has at each key, and what the operations on maps do. Over any program. -/
namespace Go.Proofs.Ytloflmkolnediaa
set_option linter.unusedVariables false
set_option linter.unusedSimpArgs false
open Go.RowKit Go.Shelf
open Go.MapKept (Stamped IsKey)

/-- Block b is a map of n entries; f says what it has at a key. -/
def MapK {α β : Type} (d : TypeDesc) (ke : α → Value) (ve : β → Value) (w : World) (b n : Nat) (f : α → Option β) : Prop :=
  ∃ es clock, w.heap[b]? = some (.map es clock) ∧ Stamped es clock ∧ es.size = n ∧ (∀ x ∈ es.toList, ∃ a v, x.key = ke a ∧ f a = some v ∧ x.val = ve v) ∧ ∀ a v, f a = some v → ∃ x ∈ es.toList, x.key = ke a ∧ x.val = ve v
/-- Keys that are plain. -/
structure KeyE {α : Type} (P : Program) (k : TypeId) (d : TypeDesc) (ke : α → Value) : Prop where
  under : P.underlying k = some d
  key : ∀ a, IsKey d (ke a)
  inj : ∀ a b, ke a = ke b → a = b
/-- The map with another thing at a key, or none. -/
def putMap {α β : Type} [DecidableEq α] (f : α → Option β) (a : α) (v : Option β) : α → Option β := fun x => if x = a then v else f x

section
variable {α β : Type} {d : TypeDesc} {ke : α → Value} {ve : β → Value} {w w' : World} {b n : Nat} {f : α → Option β} {P : Program} {k : TypeId}
theorem MapK.lt (h : MapK d ke ve w b n f) : b < w.heap.size := by
  obtain ⟨es, clock, hb, _⟩ := h
  exact (Array.getElem?_eq_some_iff.1 hb).1
theorem MapK.same (h : MapK d ke ve w b n f) (e : w'.heap[b]? = w.heap[b]?) : MapK d ke ve w' b n f := by
  obtain ⟨es, clock, hb, r⟩ := h
  exact ⟨es, clock, e.trans hb, r⟩
theorem MapK.up (h : MapK d ke ve w b n f) (hb : Below w.heap.size w w') : MapK d ke ve w' b n f := h.same (hb.block b h.lt)
theorem MapK.gr {r : Nat} (h : MapK d ke ve w b n f) (hg : w.grownBy w' (some r)) (hne : b ≠ r) : MapK d ke ve w' b n f := h.same (hg.block b h.lt (by simpa using hne))
theorem MapK.kept {K : Nat → Prop} (h : MapK d ke ve w b n f) (hk : Kept K w w') (hb : K b) : MapK d ke ve w' b n f := h.same (hk.block b hb)
theorem MapK.made (w : World) : MapK d ke ve (w.alloc (.map #[] 0)) w.heap.size 0 f ↔ (∀ a, f a = none) := by
  constructor
  · rintro ⟨es, clock, hb, _, h0, _, h2⟩ a
    cases hf : f a with
    | none => rfl
    | some v =>
      obtain ⟨x, hx, _⟩ := h2 a v hf
      have : es = #[] := Array.eq_empty_of_size_eq_zero h0
      subst this
      simp at hx
  · intro h
    exact ⟨#[], 0, (MapKept.heap_alloc w _).1, MapKept.stamped_empty 0, rfl, by simp, fun a v e => by rw [h a] at e; cases e⟩
theorem isKey_of (KE : KeyE P k d ke) {es : Array MapEntry} (h : ∀ x ∈ es.toList, ∃ a v, x.key = ke a ∧ f a = some v ∧ x.val = ve v) : ∀ x ∈ es.toList, IsKey d x.key := fun x hx => by
  obtain ⟨a, v, e, _⟩ := h x hx
  rw [e]
  exact KE.key a
/-- What is found at a key. -/
theorem findK (KE : KeyE P k d ke) {es : Array MapEntry} {clock : Nat} (hs : Stamped es clock) (h1 : ∀ x ∈ es.toList, ∃ a v, x.key = ke a ∧ f a = some v ∧ x.val = ve v) (h2 : ∀ a v, f a = some v → ∃ x ∈ es.toList, x.key = ke a ∧ x.val = ve v) (a : α) :
    (f a = none ∧ Instr.findNow d (ke a) es.toList 0 = some none ∧ ∀ x ∈ es.toList, x.key ≠ ke a) ∨ ∃ v j e, f a = some v ∧ Instr.findNow d (ke a) es.toList 0 = some (some (j, ve v)) ∧ es.toList[j]? = some e ∧ e.key = ke a ∧ e.val = ve v := by
  rcases MapKept.findNow_spec (KE.key a) es.toList 0 (isKey_of KE h1) with ⟨h3, h4⟩ | ⟨j, e, h3, h4, h5⟩
  · left
    refine ⟨?_, h3, h4⟩
    cases hf : f a with
    | none => rfl
    | some v =>
      obtain ⟨x, hx, e, _⟩ := h2 a v hf
      exact absurd e (h4 x hx)
  · right
    obtain ⟨a', v, e1, e2, e3⟩ := h1 e (List.mem_of_getElem? h4)
    have : a' = a := KE.inj _ _ (by rw [← e1, h5])
    subst this
    exact ⟨v, j, e, e2, by rw [h3, e3, Nat.zero_add], h4, h5, e3⟩
/-- The value at a key, or z. -/
def atK (ve : β → Value) (z : Value) : Option β → Value
  | some v => ve v
  | none => z
theorem I.look (KE : KeyE P k d ke) {t e : TypeId} {z : Value} (ht : P.underlying t = some (.map k e)) (hz : zeroB P e = some z) (h : MapK d ke ve w b n f) (a : α) (c : Bool) :
    (Instr.lookup t (.map (some b)) (ke a) c).run P w = .ok (if c then .tuple #[atK ve z (f a), .bool (f a).isSome] else atK ve z (f a)) w := by
  obtain ⟨es, clock, hb, hs, _, h1, h2⟩ := h
  rcases findK KE hs h1 h2 a with ⟨hf, hn, _⟩ | ⟨v, j, e, hf, hn, _⟩
  · simp [Instr.lookup, run_underlying ht, MapKept.run_getObj_map hb, MapKept.run_checkKey KE.under (KE.key a), MapKept.run_findKey KE.under hn, zero_of hz, Result.andThen, hf, atK]
  · simp [Instr.lookup, run_underlying ht, MapKept.run_getObj_map hb, MapKept.run_checkKey KE.under (KE.key a), MapKept.run_findKey KE.under hn, Result.andThen, hf, atK]
theorem I.look0 (KE : KeyE P k d ke) {t e : TypeId} {z : Value} (ht : P.underlying t = some (.map k e)) (hz : zeroB P e = some z) (a : α) (c : Bool) :
    (Instr.lookup t (.map none) (ke a) c).run P w = .ok (if c then .tuple #[z, .bool false] else z) w := by
  have hn : Instr.findNow d (ke a) ([] : List MapEntry) 0 = some none := rfl
  simp [Instr.lookup, run_underlying ht, MapKept.run_checkKey KE.under (KE.key a), MapKept.run_findKey KE.under hn, zero_of hz, Result.andThen]
theorem I.mlen {t e : TypeId} (ht : P.underlying t = some (.map k e)) (h : MapK d ke ve w b n f) (ty : TypeId) : (Builtin.len_ #[t] ty #[.map (some b)]).run P w = .ok (.int .i64 (n : Int)) w := by
  obtain ⟨es, clock, hb, _, rfl, _⟩ := h
  simp [Builtin.len_, run_underlying ht, MapKept.run_getObj_map hb, goInt, Result.andThen]
theorem set_grown {o o' : Obj} (hb : w.heap[b]? = some o) : w.grownBy { w with heap := w.heap.setIfInBounds b o' } (some b) :=
  ⟨rfl, rfl, rfl, by simp, fun i _ hi => (MapKept.heap_set hb).2 i (fun e => hi (by rw [e]))⟩
variable [DecidableEq α]
/-- m[k] = v. -/
theorem I.mput (KE : KeyE P k d ke) {t e : TypeId} (ht : P.underlying t = some (.map k e)) (h : MapK d ke ve w b n f) (a : α) (v : β) :
    ∃ w', (Instr.mapUpdate t (.map (some b)) (ke a) (ve v)).run P w = .ok () w' ∧ MapK d ke ve w' b (if (f a).isSome then n else n + 1) (putMap f a (some v)) ∧ w.grownBy w' (some b) ∧ w'.heap.size = w.heap.size := by
  obtain ⟨es, clock, hb, hs, hn, h1, h2⟩ := h
  rcases findK KE hs h1 h2 a with ⟨hf, hnow, hno⟩ | ⟨u, j, e0, hf, hnow, hj, hk0, hv0⟩
  · refine ⟨{ w with heap := w.heap.setIfInBounds b (.map (es.push { key := ke a, val := ve v, born := clock }) (clock + 1)) }, ?_, ⟨_, _, (MapKept.heap_set hb).1, MapKept.stamped_push hs hno, by simp [hf, hn], ?_, ?_⟩, set_grown hb, by simp⟩
    · simp [Instr.mapUpdate, run_underlying ht, MapKept.run_getObj_map hb, MapKept.run_checkKey KE.under (KE.key a), MapKept.run_findKey KE.under hnow, MapKept.run_setObj_map _ hb, Result.andThen]
    · intro x hx
      simp only [Array.toList_push, List.mem_append, List.mem_singleton] at hx
      rcases hx with hx | rfl
      · obtain ⟨a', v', e1, e2, e3⟩ := h1 x hx
        refine ⟨a', v', e1, ?_, e3⟩
        unfold putMap
        rw [if_neg, e2]
        rintro rfl
        rw [hf] at e2
        cases e2
      · exact ⟨a, v, rfl, by simp [putMap], rfl⟩
    · intro a' v' h
      unfold putMap at h
      split at h
      · rename_i e
        subst e
        cases h
        exact ⟨{ key := ke a', val := ve v, born := clock }, by simp, rfl, rfl⟩
      · obtain ⟨x, hx, e1, e2⟩ := h2 a' v' h
        exact ⟨x, by simp only [Array.toList_push, List.mem_append]; exact .inl hx, e1, e2⟩
  · have hj' : es[j]? = some e0 := by simpa using hj
    have hkey : ∀ e', es[j]? = some e' → ({ e' with key := ke a, val := ve v } : MapEntry).key = e'.key := fun e' he' => by rw [hj'] at he'; cases he'; exact hk0.symm
    have hlist : (es.modify j (fun e' => { e' with key := ke a, val := ve v })).toList = es.toList.set j { e0 with key := ke a, val := ve v } := by
      rw [Array.toList_modify]
      refine List.ext_getElem? fun i => ?_
      rw [List.getElem?_modify, List.getElem?_set]
      by_cases hi : j = i
      · subst hi
        have hl : j < es.size := by simpa using (List.getElem?_eq_some_iff.1 hj).1
        rw [hj]
        simp [hl]
      · simp [hi]
    refine ⟨{ w with heap := w.heap.setIfInBounds b (.map (es.modify j fun e' => { e' with key := ke a, val := ve v }) clock) }, ?_, ⟨_, _, (MapKept.heap_set hb).1, MapKept.stamped_modify hs _ _ (fun _ _ => rfl) (fun e' _ he' => hkey e' he'), by simp [hf, hn], ?_, ?_⟩, set_grown hb, by simp⟩
    · simp [Instr.mapUpdate, run_underlying ht, MapKept.run_getObj_map hb, MapKept.run_checkKey KE.under (KE.key a), MapKept.run_findKey KE.under hnow, hj', hk0, MapKept.run_keyThatStays (KE.key a), MapKept.run_setObj_map _ hb, Result.andThen]
    · intro x hx
      rw [hlist] at hx
      obtain ⟨i, hi⟩ := List.getElem?_of_mem hx
      rw [List.getElem?_set] at hi
      split at hi
      · split at hi
        · cases hi
          exact ⟨a, v, rfl, by simp [putMap], rfl⟩
        · cases hi
      · rename_i hne
        have hx0 := List.mem_of_getElem? hi
        obtain ⟨a', v', e1, e2, e3⟩ := h1 x hx0
        refine ⟨a', v', e1, ?_, e3⟩
        unfold putMap
        rw [if_neg, e2]
        rintro rfl
        have hpw := ((MapKept.stamped_iff es clock).1 hs).2.2
        have hll := (List.getElem?_eq_some_iff.1 hj).1
        have hil := (List.getElem?_eq_some_iff.1 hi).1
        have e4 := (List.getElem?_eq_some_iff.1 hj).2
        have e5 := (List.getElem?_eq_some_iff.1 hi).2
        rcases Nat.lt_or_ge i j with hlt | hge
        · have := List.pairwise_iff_getElem.1 hpw i j hil hll hlt
          rw [e4, e5, hk0, e1] at this
          exact this rfl
        · have := List.pairwise_iff_getElem.1 hpw j i hll hil (by omega)
          rw [e4, e5, hk0, e1] at this
          exact this rfl
    · intro a' v' h
      rw [hlist]
      have hll : j < es.size := by simpa using (List.getElem?_eq_some_iff.1 hj).1
      unfold putMap at h
      split at h
      · rename_i e
        subst e
        cases h
        exact ⟨{ e0 with key := ke a', val := ve v }, List.mem_iff_getElem?.2 ⟨j, by rw [List.getElem?_set]; simp [hll]⟩, rfl, rfl⟩
      · rename_i hne
        obtain ⟨x, hx, e1, e2⟩ := h2 a' v' h
        obtain ⟨i, hi⟩ := List.getElem?_of_mem hx
        refine ⟨x, List.mem_iff_getElem?.2 ⟨i, ?_⟩, e1, e2⟩
        rw [List.getElem?_set, if_neg, hi]
        rintro rfl
        rw [hj] at hi
        cases hi
        exact hne (KE.inj _ _ (by rw [← e1, hk0]))
/-- delete(m, k). -/
theorem I.mdel (KE : KeyE P k d ke) {t e : TypeId} (ht : P.underlying t = some (.map k e)) (h : MapK d ke ve w b n f) (a : α) (ty : TypeId) :
    ∃ w', (Builtin.delete_ #[t, k] ty #[.map (some b), ke a]).run P w = .ok (.tuple #[]) w' ∧ MapK d ke ve w' b (if (f a).isSome then n - 1 else n) (putMap f a none) ∧ w.grownBy w' (some b) ∧ w'.heap.size = w.heap.size := by
  obtain ⟨es, clock, hb, hs, hn, h1, h2⟩ := h
  rcases findK KE hs h1 h2 a with ⟨hf, hnow, hno⟩ | ⟨u, j, e0, hf, hnow, hj, hk0, hv0⟩
  · refine ⟨{ w with heap := w.heap.setIfInBounds b (.map es clock) }, ?_, ⟨_, _, (MapKept.heap_set hb).1, hs, by simp [hf, hn], ?_, ?_⟩, set_grown hb, by simp⟩
    · simp [Builtin.delete_, run_underlying ht, MapKept.run_getObj_map hb, MapKept.run_checkKey KE.under (KE.key a), MapKept.run_findKey KE.under hnow, MapKept.run_setObj_map _ hb, Result.andThen]
    · intro x hx
      obtain ⟨a', v', e1, e2, e3⟩ := h1 x hx
      refine ⟨a', v', e1, ?_, e3⟩
      unfold putMap
      rw [if_neg, e2]
      rintro rfl
      rw [hf] at e2
      cases e2
    · intro a' v' h
      unfold putMap at h
      split at h
      · cases h
      · exact h2 a' v' h
  · have hjl : j < es.toList.length := (List.getElem?_eq_some_iff.1 hj).1
    have hjs : j < es.size := by simpa using hjl
    have hsub : (es.eraseIdxIfInBounds j).toList = es.toList.eraseIdx j := by
      unfold Array.eraseIdxIfInBounds
      rw [dif_pos hjs]
      simp
    have hpw := ((MapKept.stamped_iff es clock).1 hs).2.2
    have hoth : ∀ i x, es.toList[i]? = some x → i ≠ j → x.key ≠ ke a := fun i x hi hne e1 => by
      have hil := (List.getElem?_eq_some_iff.1 hi).1
      have e4 := (List.getElem?_eq_some_iff.1 hj).2
      have e5 := (List.getElem?_eq_some_iff.1 hi).2
      rcases Nat.lt_or_ge i j with hlt | hge
      · have := List.pairwise_iff_getElem.1 hpw i j hil hjl hlt
        rw [e4, e5, hk0, e1] at this
        exact this rfl
      · have := List.pairwise_iff_getElem.1 hpw j i hjl hil (by omega)
        rw [e4, e5, hk0, e1] at this
        exact this rfl
    refine ⟨{ w with heap := w.heap.setIfInBounds b (.map (es.eraseIdxIfInBounds j) clock) }, ?_, ⟨_, _, (MapKept.heap_set hb).1, MapKept.stamped_erase hs _, ?_, ?_, ?_⟩, set_grown hb, by simp⟩
    · simp [Builtin.delete_, run_underlying ht, MapKept.run_getObj_map hb, MapKept.run_checkKey KE.under (KE.key a), MapKept.run_findKey KE.under hnow, MapKept.run_setObj_map _ hb, Result.andThen]
    · rw [← Array.length_toList, hsub, List.length_eraseIdx, if_pos hjl]
      simp [hf, ← hn]
    · intro x hx
      rw [hsub] at hx
      obtain ⟨i, hne, hi⟩ := List.mem_eraseIdx_iff_getElem?.1 hx
      obtain ⟨a', v', e1, e2, e3⟩ := h1 x (List.mem_of_getElem? hi)
      refine ⟨a', v', e1, ?_, e3⟩
      unfold putMap
      rw [if_neg, e2]
      rintro rfl
      exact hoth i x hi hne e1
    · intro a' v' h
      unfold putMap at h
      split at h
      · cases h
      · rename_i hne
        obtain ⟨x, hx, e1, e2⟩ := h2 a' v' h
        obtain ⟨i, hi⟩ := List.getElem?_of_mem hx
        refine ⟨x, ?_, e1, e2⟩
        rw [hsub, List.mem_eraseIdx_iff_getElem?]
        refine ⟨i, ?_, hi⟩
        rintro rfl
        rw [hj] at hi
        cases hi
        exact hne (KE.inj _ _ (by rw [← e1, hk0]))
omit [DecidableEq α] in
/-- clear(m). -/
theorem I.mclear {t e : TypeId} (ht : P.underlying t = some (.map k e)) (h : MapK d ke ve w b n f) (ty : TypeId) :
    ∃ w', (Builtin.clear_ #[t] ty #[.map (some b)]).run P w = .ok (.tuple #[]) w' ∧ MapK d ke ve w' b 0 (fun _ => none) ∧ w.grownBy w' (some b) ∧ w'.heap.size = w.heap.size := by
  obtain ⟨es, clock, hb, hs, hn, h1, h2⟩ := h
  refine ⟨{ w with heap := w.heap.setIfInBounds b (.map #[] clock) }, ?_, ⟨_, _, (MapKept.heap_set hb).1, MapKept.stamped_empty _, rfl, by simp, by simp⟩, set_grown hb, by simp⟩
  simp [Builtin.clear_, run_underlying ht, MapKept.run_getObj_map hb, MapKept.run_setObj_map _ hb, Result.andThen]
end

section
variable {α β : Type} {d : TypeDesc} {ke : α → Value} {ve : β → Value} {w w' : World} {b b' n n' : Nat} {f : α → Option β}
/-- What a map has says how many entries it has. -/
theorem MapK.many (h : MapK d ke ve w b n f) (h' : MapK d ke ve w' b' n' f) : n = n' := by
  obtain ⟨es, clock, _, hs, hn, h1, h2⟩ := h
  obtain ⟨es', clock', _, hs', hn', h1', h2'⟩ := h'
  have key : ∀ (es : Array MapEntry), (∀ x ∈ es.toList, ∃ a v, x.key = ke a ∧ f a = some v ∧ x.val = ve v) → (∀ a v, f a = some v → ∃ x ∈ es.toList, x.key = ke a ∧ x.val = ve v) → ∀ k, k ∈ es.toList.map (·.key) ↔ ∃ a v, k = ke a ∧ f a = some v := fun es h1 h2 k => by
    constructor
    · intro h
      obtain ⟨x, hx, rfl⟩ := List.mem_map.1 h
      obtain ⟨a, v, e, e2, _⟩ := h1 x hx
      exact ⟨a, v, e, e2⟩
    · rintro ⟨a, v, rfl, e⟩
      obtain ⟨x, hx, e2, _⟩ := h2 a v e
      exact List.mem_map.2 ⟨x, hx, e2⟩
  have hp := (List.perm_ext_iff_of_nodup hs.2.2 hs'.2.2).2 fun k => (key es h1 h2 k).trans (key es' h1' h2' k).symm
  have := hp.length_eq
  simp only [List.length_map, Array.length_toList] at this
  omega
end
/-! A range over a map: which keys are still to come. -/
def RangeK {α β : Type} (d : TypeDesc) (ke : α → Value) (ve : β → Value) (w : World) (b r n : Nat) (f : α → Option β) (left : α → Prop) (cnt : Nat) : Prop :=
  ∃ es clock since seen c0, w.heap[b]? = some (.map es clock) ∧ Stamped es clock ∧ es.size = n ∧ (∀ x ∈ es.toList, ∃ a v, x.key = ke a ∧ f a = some v ∧ x.val = ve v) ∧ (∀ a v, f a = some v → ∃ x ∈ es.toList, x.key = ke a ∧ x.val = ve v) ∧
    w.heap[r]? = some (.mapIter (some b) since seen c0) ∧ (∀ x ∈ es.toList, x.born < since) ∧ (leftOf es seen).size = cnt ∧ (∀ x ∈ es.toList, ∀ a, x.key = ke a → (left a ↔ seen.contains x.born = false)) ∧ (∀ a, left a → f a ≠ none) ∧ since ≤ c0 ∧ since ≤ clock
section
variable {α β : Type} {d : TypeDesc} {ke : α → Value} {ve : β → Value} {w w' : World} {b r n cnt : Nat} {f : α → Option β} {left : α → Prop} {P : Program} {k : TypeId}
theorem RangeK.map (h : RangeK d ke ve w b r n f left cnt) : MapK d ke ve w b n f := by
  obtain ⟨es, clock, since, seen, c0, hb, hs, hn, h1, h2, _⟩ := h
  exact ⟨es, clock, hb, hs, hn, h1, h2⟩
theorem RangeK.lt (h : RangeK d ke ve w b r n f left cnt) : r < w.heap.size := by
  obtain ⟨es, clock, since, seen, c0, _, _, _, _, _, hr, _⟩ := h
  exact (Array.getElem?_eq_some_iff.1 hr).1
theorem RangeK.same (h : RangeK d ke ve w b r n f left cnt) (e1 : w'.heap[b]? = w.heap[b]?) (e2 : w'.heap[r]? = w.heap[r]?) : RangeK d ke ve w' b r n f left cnt := by
  obtain ⟨es, clock, since, seen, c0, hb, hs, hn, h1, h2, hr, rest⟩ := h
  exact ⟨es, clock, since, seen, c0, e1.trans hb, hs, hn, h1, h2, e2.trans hr, rest⟩
theorem RangeK.up (h : RangeK d ke ve w b r n f left cnt) (hb : Below w.heap.size w w') : RangeK d ke ve w' b r n f left cnt := h.same (hb.block b h.map.lt) (hb.block r h.lt)
theorem RangeK.gr {g : Nat} (h : RangeK d ke ve w b r n f left cnt) (hg : w.grownBy w' (some g)) (hne : b ≠ g ∧ r ≠ g) : RangeK d ke ve w' b r n f left cnt := h.same (hg.block b h.map.lt (by simpa using hne.1)) (hg.block r h.lt (by simpa using hne.2))
theorem I.mrange (KE : KeyE P k d ke) {t e : TypeId} (ht : P.underlying t = some (.map k e)) (h : MapK d ke ve w b n f) :
    ∃ w', (Instr.range t (.map (some b))).run P w = .ok (.pointer (some ⟨w.heap.size, 0, none⟩)) w' ∧ RangeK d ke ve w' b w.heap.size n f (fun a => f a ≠ none) n ∧ Below w.heap.size w w' ∧ w'.heap.size = w.heap.size + 1 := by
  have hlt := h.lt
  obtain ⟨es, clock, hb, hs, hn, h1, h2⟩ := h
  refine ⟨_, run_range_map w t k e b es clock ht hb, ⟨es, clock, clock, #[], clock, ((MapKept.heap_alloc w _).2 b hlt).trans hb, hs, hn, h1, h2, (MapKept.heap_alloc w _).1, hs.1, ?_, ?_, fun a h => h, Nat.le_refl _, Nat.le_refl _⟩, Below.alloc0 w _, by simp⟩
  · have e0 : leftOf es #[] = es := Array.filter_eq_self.2 fun x _ => by simp
    rw [e0, hn]
  · intro x hx a e
    obtain ⟨a', v, e1, e2, _⟩ := h1 x hx
    obtain rfl : a = a' := KE.inj _ _ (by rw [← e, e1])
    simp [e2]
/-- The step: nothing is left; or a key that was left comes, whichever, with what the map has there. -/
theorem I.mnext (KE : KeyE P k d ke) (h : RangeK d ke ve w b r n f left cnt) (ty : TypeId) :
    (cnt = 0 ∧ (∀ a, ¬ left a) ∧ (Instr.next (.pointer (some ⟨r, 0, none⟩)) false ty).run P w = .ok (.tuple #[.bool false]) w) ∨
    ∃ a v w' cnt', left a ∧ f a = some v ∧ (Instr.next (.pointer (some ⟨r, 0, none⟩)) false ty).run P w = .ok (.tuple #[.bool true, ke a, ve v]) w' ∧ RangeK d ke ve w' b r n f (fun x => left x ∧ x ≠ a) cnt' ∧ cnt' < cnt ∧ w.grownBy w' (some r) ∧ w'.heap.size = w.heap.size ∧
      (Instr.entry (.pointer (some ⟨r, 0, none⟩))).run P w' = .ok (.tuple #[ke a, ve v]) w' := by
  obtain ⟨es, clock, since, seen, c0, hb, hs, hn, h1, h2, hr, hold, rfl, hl1, hl2, hsc, hsk⟩ := h
  have hne : r ≠ b := by
    rintro rfl
    rw [hb] at hr
    cases hr
  rcases run_next_at (P := P) w ty r b since c0 seen es clock hr hb hold hsc with ⟨h0, hrun⟩ | ⟨e, he, w1, hal, hrun⟩
  · refine .inl ⟨h0, fun a ha => ?_, hrun⟩
    have hf := hl2 a ha
    cases hfa : f a with
    | none => exact hf hfa
    | some v =>
      obtain ⟨x, hx, e1, _⟩ := h2 a v hfa
      have := (hl1 x hx a e1).1 ha
      have hm : x ∈ (leftOf es seen).toList := by simp only [leftOf, Array.toList_filter, List.mem_filter]; exact ⟨hx, by rw [this]; rfl⟩
      have := List.length_pos_of_mem hm
      simp at this
      omega
  · have hem : e ∈ es.toList ∧ seen.contains e.born = false := by
      simp only [leftOf, Array.toList_filter, List.mem_filter] at he
      exact ⟨he.1, by simpa only [Bool.not_eq_true'] using he.2⟩
    obtain ⟨hem, hes⟩ := hem
    obtain ⟨a, v, ek, ef, ev⟩ := h1 e hem
    have hr1 : w1.heap[r]? = some (.mapIter (some b) since seen c0) := by rcases hal with rfl | rfl <;> exact hr
    have hb1 : w1.heap[b]? = some (.map es clock) := by rcases hal with rfl | rfl <;> exact hb
    have hset := MapKept.heap_set (o' := .mapIter (some b) since (seen.push e.born) clock) hr1
    have hb' := (hset.2 b (fun e1 => hne e1.symm)).trans hb1
    have hst := (MapKept.stamped_iff es clock).1 hs
    refine .inr ⟨a, v, _, _, (hl1 e hem a ek).2 hes, ef, by rw [← ek, ← ev]; exact hrun, ⟨es, clock, since, seen.push e.born, clock, hb', hs, hn, h1, h2, hset.1, hold, rfl, fun x hx a2 e2 => ?_, fun a2 h3 => hl2 a2 h3.1, hsk, hsk⟩, left_shrinks es seen e he, ?_, ?_, ?_⟩
    · simp only
      rw [hl1 x hx a2 e2, contains_push]
      by_cases hxe : x.born = e.born
      · have : x = e := born_inj hst.2.1 hx hem hxe
        subst this
        obtain rfl : a2 = a := KE.inj _ _ (by rw [← e2, ek])
        simp
      · have h5 : a2 ≠ a := by
          rintro rfl
          have h6 := hst.2.2
          have : x = e := by
            obtain ⟨i, hi⟩ := List.getElem?_of_mem hx
            obtain ⟨j, hj⟩ := List.getElem?_of_mem hem
            have hil := (List.getElem?_eq_some_iff.1 hi).1
            have hjl := (List.getElem?_eq_some_iff.1 hj).1
            have e4 := (List.getElem?_eq_some_iff.1 hi).2
            have e5 := (List.getElem?_eq_some_iff.1 hj).2
            rcases Nat.lt_trichotomy i j with hlt | rfl | hlt
            · exact absurd (by rw [e4, e5, e2, ek]) (List.pairwise_iff_getElem.1 h6 i j hil hjl hlt)
            · rw [hi] at hj; cases hj; rfl
            · exact absurd (by rw [e4, e5, e2, ek]) (List.pairwise_iff_getElem.1 h6 j i hjl hil hlt)
          exact hxe (by rw [this])
        simp [hxe, h5]
    · rcases hal with rfl | rfl <;> exact ⟨rfl, rfl, rfl, by simp [ChangeMaps.setBlock], fun i _ hi => hset.2 i (fun e1 => hi (by rw [e1]))⟩
    · rcases hal with rfl | rfl <;> simp [ChangeMaps.setBlock]
    · rw [← ek, ← ev]
      exact run_entry_at _ r b since seen es clock e hset.1 hb' hem hst.2.1
end

/-! At the operations. -/
section
variable {α β : Type} {d : TypeDesc} {ke : α → Value} {ve : β → Value} {w : World} {b n : Nat} {f : α → Option β} {P : Program} {k t e : TypeId} {o : Oper} {N : Nat} {D : List Deferred} {M : Slots} {x y : Operand} {r : Option Nat} {ops : Array Oper} {Q : Exit → Act → World → Prop} {rest : List Oper} {z : Value} {u : Value}
theorem R.lookK (ho : o.op = .lookup t x y false) (hx : evM M x = some (.map (some b))) (KE : KeyE P k d ke) (ht : P.underlying t = some (.map k e)) (hz : zeroB P e = some z) (h : MapK d ke ve w b n f) (a : α) (hy : evM M y = some (ke a)) (hu : atK ve z (f a) = u) : Runs P N D M o w (.value u) w := fun ac F => by
  unfold execOp; simp only [ho, F.ev hx, F.ev hy, Sem.run_bind, Sem.run_pure, I.look KE ht hz h a false, Result.andThen_ok]; simp [hu]
theorem R.lookKT (ho : o.op = .lookup t x y true) (hx : evM M x = some (.map (some b))) (KE : KeyE P k d ke) (ht : P.underlying t = some (.map k e)) (hz : zeroB P e = some z) (h : MapK d ke ve w b n f) (a : α) (hy : evM M y = some (ke a)) {v : β} (hv : f a = some v) : Runs P N D M o w (.value (.tuple #[ve v, .bool true])) w := fun ac F => by
  unfold execOp; simp only [ho, F.ev hx, F.ev hy, Sem.run_bind, Sem.run_pure, I.look KE ht hz h a true, Result.andThen_ok]; simp [hv, atK]
theorem R.lookKF (ho : o.op = .lookup t x y true) (hx : evM M x = some (.map (some b))) (KE : KeyE P k d ke) (ht : P.underlying t = some (.map k e)) (hz : zeroB P e = some z) (h : MapK d ke ve w b n f) (a : α) (hy : evM M y = some (ke a)) (hv : f a = none) : Runs P N D M o w (.value (.tuple #[z, .bool false])) w := fun ac F => by
  unfold execOp; simp only [ho, F.ev hx, F.ev hy, Sem.run_bind, Sem.run_pure, I.look KE ht hz h a true, Result.andThen_ok]; simp [hv, atK]
theorem R.mlen {xs : Array Operand} (ho : o.op = .call { callee := .builtin .len, args := xs, argTypes := #[t] }) (hx : evsM M xs.toList = some [.map (some b)]) (ht : P.underlying t = some (.map k e)) (h : MapK d ke ve w b n f) : Runs P N D M o w (.value (.int .i64 (n : Int))) w :=
  R.builtin ho hx fun cs => by
    show (((do pure (Next.value (← Builtin.len_ #[t] o.type #[.map (some b)]))) : Sem Next)).run P w = _
    simp only [Sem.run_bind, I.mlen ht h o.type, Result.andThen_ok, Sem.run_pure]
theorem R.makeMap0 (ho : o.op = .makeMap t none) : Runs P N D M o w (.value (.map (some w.heap.size))) (w.alloc (.map #[] 0)) := fun ac F => by
  unfold execOp; simp [ho, Instr.makeMap, Result.andThen]
theorem R.makeMapH {hnt : Int} {kk : IntKind} (ho : o.op = .makeMap t (some x)) (hx : evM M x = some (.int kk hnt)) (ht : P.underlying t = some (.map k e)) : Runs P N D M o w (.value (.map (some w.heap.size))) (w.alloc (.map #[] 0)) := fun ac F => by
  unfold execOp; simp [ho, F.ev hx, Instr.makeMap, run_underlying ht, asInt, asIntOf, Result.andThen]
theorem LL.makeMap (hr : Runs P N D M o w (.value (.map (some w.heap.size))) (w.alloc (.map #[] 0))) (hd : dstB N o.dst = true) (hdf : dfB o.op = false) (hg : wantB ops M o.guard = some true)
    (c : ∀ w1 g, g = w.heap.size → (∀ (α β : Type) (d : TypeDesc) (ke : α → Value) (ve : β → Value), MapK d ke ve w1 g 0 (fun _ => none)) → w1.heap.size = g + 1 → Below w.heap.size w w1 → LL r P ops Q N D (putM M o.dst (.map (some g))) rest w1) : LL r P ops Q N D M (o :: rest) w :=
  LL.val hr hd hdf hg (c _ _ rfl (fun _ _ _ _ _ => (MapK.made w).2 fun _ => rfl) (by simp) (Below.alloc0 w _))
theorem LL.mput [DecidableEq α] {y2 : Operand} (ho : o.op = .mapUpdate t x y y2 ∨ o.op = .insert t x y y2) (hx : evM M x = some (.map (some b))) (KE : KeyE P k d ke) (ht : P.underlying t = some (.map k e)) (h : MapK d ke ve w b n f) (a : α) (v : β) (hy : evM M y = some (ke a)) (hv : evM M y2 = some (ve v)) (hd : o.dst = none) (hdf : dfB o.op = false) (hg : wantB ops M o.guard = some true)
    (c : ∀ w', MapK d ke ve w' b (if (f a).isSome then n else n + 1) (putMap f a (some v)) → w.grownBy w' (some b) → w'.heap.size = w.heap.size → LL r P ops Q N D M rest w') : LL r P ops Q N D M (o :: rest) w := by
  obtain ⟨w', h1, h2, h3, h4⟩ := I.mput KE ht h a v
  refine LL.unit (w' := w') (fun ac F => ?_) hd hdf hg (c w' h2 h3 h4)
  unfold execOp
  rcases ho with ho | ho <;> simp only [ho, F.ev hx, F.ev hy, F.ev hv, Sem.run_bind, Sem.run_pure, h1, Result.andThen_ok]
theorem LL.mdel [DecidableEq α] {xs : Array Operand} (ho : o.op = .call { callee := .builtin .delete, args := xs, argTypes := #[t, k] }) (KE : KeyE P k d ke) (a : α) (hx : evsM M xs.toList = some [.map (some b), ke a]) (ht : P.underlying t = some (.map k e)) (h : MapK d ke ve w b n f) (hd : dstB N o.dst = true) (hg : wantB ops M o.guard = some true)
    (c : ∀ w', MapK d ke ve w' b (if (f a).isSome then n - 1 else n) (putMap f a none) → w.grownBy w' (some b) → w'.heap.size = w.heap.size → LL r P ops Q N D (putM M o.dst (.tuple #[])) rest w') : LL r P ops Q N D M (o :: rest) w := by
  obtain ⟨w', h1, h2, h3, h4⟩ := I.mdel KE ht h a o.type
  refine LL.val (v := .tuple #[]) (R.builtin ho hx fun cs => ?_) hd (by rw [ho]; rfl) hg (c w' h2 h3 h4)
  unfold builtin
  simp only [Sem.run_bind, h1, Result.andThen_ok, Sem.run_pure]
theorem LL.mclear {xs : Array Operand} (ho : o.op = .call { callee := .builtin .clear, args := xs, argTypes := #[t] }) (hx : evsM M xs.toList = some [.map (some b)]) (ht : P.underlying t = some (.map k e)) (h : MapK d ke ve w b n f) (hd : dstB N o.dst = true) (hg : wantB ops M o.guard = some true)
    (c : ∀ w', MapK d ke ve w' b 0 (fun _ => none) → w.grownBy w' (some b) → w'.heap.size = w.heap.size → LL r P ops Q N D (putM M o.dst (.tuple #[])) rest w') : LL r P ops Q N D M (o :: rest) w := by
  obtain ⟨w', h1, h2, h3, h4⟩ := I.mclear ht h o.type
  refine LL.val (v := .tuple #[]) (R.builtin ho hx fun cs => ?_) hd (by rw [ho]; rfl) hg (c w' h2 h3 h4)
  unfold builtin
  simp only [Sem.run_bind, h1, Result.andThen_ok, Sem.run_pure]
theorem LL.mrange (ho : o.op = .range t x) (hx : evM M x = some (.map (some b))) (KE : KeyE P k d ke) (ht : P.underlying t = some (.map k e)) (h : MapK d ke ve w b n f) (hd : dstB N o.dst = true) (hg : wantB ops M o.guard = some true)
    (c : ∀ w' g, g = w.heap.size → RangeK d ke ve w' b g n f (fun a => f a ≠ none) n → Below w.heap.size w w' → w'.heap.size = g + 1 → LL r P ops Q N D (putM M o.dst (.pointer (some ⟨g, 0, none⟩))) rest w') : LL r P ops Q N D M (o :: rest) w := by
  obtain ⟨w', h1, h2, h3, h4⟩ := I.mrange KE ht h
  refine LL.val (v := .pointer (some ⟨w.heap.size, 0, none⟩)) (w' := w') (fun ac F => ?_) hd (by rw [ho]; rfl) hg (c w' _ rfl h2 h3 h4)
  unfold execOp
  simp only [ho, F.ev hx, Sem.run_bind, Sem.run_pure, h1, Result.andThen_ok]
theorem LL.mnext {it cnt : Nat} {left : α → Prop} (ho : o.op = .next x false) (hx : evM M x = some (.pointer (some ⟨it, 0, none⟩))) (KE : KeyE P k d ke) (h : RangeK d ke ve w b it n f left cnt) (hd : dstB N o.dst = true) (hg : wantB ops M o.guard = some true)
    (c0 : (∀ a, ¬ left a) → LL r P ops Q N D (putM M o.dst (.tuple #[.bool false])) rest w)
    (c1 : ∀ a v w' cnt', left a → f a = some v → RangeK d ke ve w' b it n f (fun x => left x ∧ x ≠ a) cnt' → cnt' < cnt → w.grownBy w' (some it) → w'.heap.size = w.heap.size → (Instr.entry (.pointer (some ⟨it, 0, none⟩))).run P w' = .ok (.tuple #[ke a, ve v]) w' → LL r P ops Q N D (putM M o.dst (.tuple #[.bool true, ke a, ve v])) rest w') : LL r P ops Q N D M (o :: rest) w := by
  rcases I.mnext KE h o.type with ⟨_, h1, h2⟩ | ⟨a, v, w', cnt', h1, h2, h3, h4, h5, h6, h7, h8⟩
  · refine LL.val (v := .tuple #[.bool false]) (w' := w) (fun ac F => ?_) hd (by rw [ho]; rfl) hg (c0 h1)
    unfold execOp
    simp only [ho, F.ev hx, Sem.run_bind, Sem.run_pure, h2, Result.andThen_ok]
  · refine LL.val (v := .tuple #[.bool true, ke a, ve v]) (w' := w') (fun ac F => ?_) hd (by rw [ho]; rfl) hg (c1 a v w' cnt' h1 h2 h4 h5 h6 h7 h8)
    unfold execOp
    simp only [ho, F.ev hx, Sem.run_bind, Sem.run_pure, h3, Result.andThen_ok]
theorem R.entry {u : Value} (ho : o.op = .entry x) (hx : evM M x = some u) {v : Value} (h : (Instr.entry u).run P w = .ok v w) : Runs P N D M o w (.value v) w := fun ac F => by
  unfold execOp
  simp only [ho, F.ev hx, Sem.run_bind, Sem.run_pure, h, Result.andThen_ok]
end
end Go.Proofs.Ytloflmkolnediaa

/- Maps in drawn regions that make memory. Over any program. -/
namespace Go.Proofs.Ytloflmkolnediaa
set_option linter.unusedVariables false
set_option linter.unusedSimpArgs false
open Go.RowKit Go.Shelf
section
variable {P : Program} {w : World} {t : TypeId} {o : Oper} {x y : Operand} {n i : Nat} {D : List Deferred} {M : Slots} {ops : Array Oper} {ok : World → Prop} {K : Slots → World → Prop}
theorem ZR.makeMap (hi : ops[i]? = some o) (hr : Runs P n D M o w (.value (.map (some w.heap.size))) (w.alloc (.map #[] 0))) (hd : dstB n o.dst = true) (hg : wantB ops M o.guard = some true)
    (c : ∀ w1 g, g = w.heap.size → (∀ (α β : Type) (d : TypeDesc) (ke : α → Value) (ve : β → Value), MapK d ke ve w1 g 0 (fun _ => none)) → w1.heap.size = g + 1 → Below w.heap.size w w1 → ok w1 ∧ K (putM M o.dst (.map (some g))) w1) : SR P ops ok i K n D M w :=
  have h := c _ _ rfl (fun _ _ _ _ _ => (MapK.made w).2 fun _ => rfl) (by simp) (Below.alloc0 w _)
  SR.val hi hr hd hg h.1 h.2
theorem fzMap {α β : Type} {d : TypeDesc} {ke : α → Value} {ve : β → Value} {K : Nat → Prop} {b m : Nat} {f : α → Option β} (h : MapK d ke ve w b m f) (hg : K b) : ∀ w', Kept K w w' → MapK d ke ve w' b m f := fun _ hk => h.kept hk hg
end
end Go.Proofs.Ytloflmkolnediaa

/- A walk that writes one block that was there, and new ones: what it keeps. -/
namespace Go.Proofs.Ytloflmkolnediaa
set_option linter.unusedVariables false
set_option linter.unusedSimpArgs false
open Go.RowKit Go.Shelf
/-- All blocks that were there stay, but g. -/
def Gw (g : Nat) (w0 w : World) : Prop := Kept (fun j => j < w0.heap.size ∧ j ≠ g) w0 w
section
variable {w0 w w' : World} {g r : Nat}
theorem Gw.refl (g : Nat) (w : World) : Gw g w w := Kept.refl _ _
theorem Gw.size (h : Gw g w0 w) : w0.heap.size ≤ w.heap.size := Kept.size h
theorem Gw.gr (h : Gw g w0 w) (hb : w.grownBy w' (some r)) (e : r = g ∨ w0.heap.size ≤ r) : Gw g w0 w' :=
  Kept.trans h (grown_kept hb (fun j hj => Nat.lt_of_lt_of_le hj.1 h.size) (fun j hj e' => by cases e'; rcases e with e | e; exact hj.2 e; exact absurd hj.1 (Nat.not_lt.2 e)))
theorem Gw.up (h : Gw g w0 w) (hb : Below w.heap.size w w') : Gw g w0 w' :=
  Kept.trans h (bkept hb (fun j hj => Nat.lt_of_lt_of_le hj.1 h.size))
theorem Gw.kept (h : Gw g w0 w) (hk : Kept (fun j => j < w.heap.size ∧ j ≠ r) w w') (e : r = r ∧ (r = g ∨ w0.heap.size ≤ r)) : Gw g w0 w' :=
  Kept.trans h (hk.less fun j hj => ⟨Nat.lt_of_lt_of_le hj.1 h.size, fun e' => by rcases e.2 with e | e; exact hj.2 (e'.trans e); exact absurd hj.1 (by omega)⟩)
/-- Where g is new to who called, nothing of what was there has changed. -/
theorem Gw.bel {w1 : World} (h : Gw g w0 w) (hb : Below w1.heap.size w1 w0) (hg : w1.heap.size ≤ g) : Below w1.heap.size w1 w :=
  Kept.bel ((bkept hb fun _ h => h).trans (Kept.less h fun j hj => ⟨Nat.lt_of_lt_of_le hj hb.size, fun e => absurd hj (by omega)⟩))
theorem row_eq {t : Nat} {xs ys : List Value} (h : RowL w g t xs) (e : xs = ys) : RowL w g t ys := e ▸ h
end
end Go.Proofs.Ytloflmkolnediaa
