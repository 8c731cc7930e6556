/- A walk by explicit steps: frames of which some slots are known ('Fr'), in the wide fence, in a round or not. Over any program. -/
import Derived.Test.YtajfffoaebjnlaaPipe
import Derived.StillTailTactics
import Derived.OrdersIn
import Derived.Laws.CopyRow
namespace Go.Proofs.Ytajfffoaebjnlaa
set_option linter.unusedVariables false
set_option linter.unusedSimpArgs false
open Go.RowKit Go.Shelf

/-- The wide fence, in a round or not. -/
abbrev Wr (r : Option Nat) : Fence := { Fence.wide with round := r }
theorem callsWr {r : Option Nat} {n : Nat} {P : Program} {f : FuncId} {args : Array Value} {w : World} {R : Ending → World → Prop} (h : Calls P f args w R) : CallsIn (Wr r) n P f args w R := by
  cases r with
  | none => exact callsIn_wide.2 h
  | some l => exact CallsIn.inRound l (callsIn_wide.2 h)

abbrev Slots := Nat → Option Value
def up (M : Slots) (d : Nat) (v : Value) : Slots := fun s => match Nat.beq s d with | true => some v | false => M s
def sl : List (Nat × Value) → Slots
  | [], _ => none
  | (t, v) :: l, s => match Nat.beq s t with | true => some v | false => sl l s
/-- What is known of a frame: its size, its deferred calls, some slots. -/
structure Fr (n : Nat) (D : List Deferred) (M : Slots) (a : Act) : Prop where
  size : a.tmps.size = n
  defers : a.defers = D
  get : ∀ s v, M s = some v → a.tmps.getD s undef = v
def evM (M : Slots) : Operand → Option Value
  | .tmp s => M s
  | .const v => some v
  | .global g => some (.pointer (some ⟨g, 0, none⟩))
  | .func f => some (.func (.func f) #[] #[])
def dfB : Op → Bool
  | .defer _ => true
  | _ => false
def wantB (ops : Array Oper) (M : Slots) : Option (Nat × Bool) → Option Bool
  | none => some true
  | some (j, b) => match ((ops[j]?).bind (·.dst)).bind M with
    | some (.bool c) => some (c == b)
    | some (.tuple _) => some false
    | _ => none
def putM (M : Slots) : Option Tmp → Value → Slots
  | some d, v => up M d v
  | none, _ => M
def dstB (n : Nat) : Option Tmp → Bool
  | some d => Nat.blt d n
  | none => true

theorem beq_ne {s d : Nat} (e : s ≠ d) : Nat.beq s d = false := by
  cases hb : Nat.beq s d with
  | false => rfl
  | true => exact absurd (Nat.eq_of_beq_eq_true hb) e

section
variable {a : Act} {n : Nat} {D : List Deferred} {M : Slots}
theorem Fr.put (F : Fr n D M a) (d : Option Tmp) (v : Value) (h : dstB n d = true) : Fr n D (putM M d v) (a.put d v) := by
  cases d with
  | none => exact F
  | some d =>
    have hd : d < n := by simpa [dstB] using h
    refine ⟨by simp [Act.put, F.size], F.defers, fun s u hs => ?_⟩
    simp only [putM, up] at hs
    by_cases e : s = d
    · subst e
      rw [Nat.beq_refl] at hs
      cases hs
      simp [Act.put, Array.getD_eq_getD_getElem?, F.size, hd]
    · rw [beq_ne e] at hs
      rw [← F.get s u hs]
      simp [Act.put, Array.getD_eq_getD_getElem?, Array.getElem?_setIfInBounds, Ne.symm e]
theorem Fr.ev (F : Fr n D M a) {x : Operand} {v : Value} (h : evM M x = some v) : a.eval x = v := by
  cases x with
  | tmp s => exact F.get s v h
  | const u => cases h; rfl
  | global g => cases h; rfl
  | func f => cases h; rfl
theorem Fr.want (F : Fr n D M a) {ops : Array Oper} {o : Oper} {t : Bool} (h : wantB ops M o.guard = some t) : Region.wanted o (yielded ops a.tmps) = t := by
  unfold Region.wanted
  cases hg : o.guard with
  | none => rw [hg] at h; simpa [wantB] using h
  | some p =>
    obtain ⟨j, b⟩ := p
    rw [hg] at h
    simp only [wantB] at h
    cases hd : (ops[j]?).bind (·.dst) with
    | none => rw [hd] at h; cases h
    | some d =>
      rw [hd] at h
      simp only [Option.bind_some] at h
      cases hm : M d with
      | none => rw [hm] at h; cases h
      | some v =>
        rw [hm] at h
        cases v <;> try (cases h; done)
        case tuple vs =>
          simp only [Option.some.injEq] at h
          subst h
          have hget := F.get d _ hm
          have hy : yielded ops a.tmps j = none := by
            unfold yielded
            rw [hd, Option.bind_some]
            rw [Array.getD_eq_getD_getElem?] at hget
            cases ht : a.tmps[d]? with
            | none => rfl
            | some u => rw [ht] at hget; simp only [Option.getD_some] at hget; subst hget; rfl
          simp [hy]
        rename_i c
        simp at h
        have hget := F.get d _ hm
        have hlt : d < a.tmps.size := by
          rcases Nat.lt_or_ge d a.tmps.size with hl | hl
          · exact hl
          · rw [Array.getD_eq_getD_getElem?, Array.getElem?_eq_none hl] at hget; cases hget
        rw [Array.getD_eq_getD_getElem?, Array.getElem?_eq_getElem hlt] at hget
        simp only [Option.getD_some] at hget
        have hy : yielded ops a.tmps j = some c := by
          unfold yielded
          rw [hd]
          simp only [Option.bind_some, Array.getElem?_eq_getElem hlt, hget]
        show (yielded ops a.tmps j == some b) = t
        rw [hy, ← h]
        rfl
def Fits (M : Slots) : List (Nat × Value) → Prop
  | [] => True
  | (s, v) :: l => M s = some v ∧ Fits M l
theorem Fits.sub : ∀ {L : List (Nat × Value)}, Fits M L → ∀ s v, sl L s = some v → M s = some v
  | [], _, s, v, h => by cases h
  | (t, u) :: l, hf, s, v, h => by
    simp only [sl] at h
    by_cases e : s = t
    · subst e; rw [Nat.beq_refl] at h; cases h; exact hf.1
    · rw [beq_ne e] at h; exact Fits.sub hf.2 s v h
theorem Fr.keep (F : Fr n D M a) (L : List (Nat × Value)) (h : Fits M L) : Fr n D (sl L) a := ⟨F.size, F.defers, fun s v hs => F.get s v (h.sub s v hs)⟩
def lg : List Value → Slots
  | [], _ => none
  | v :: _, 0 => some v
  | _ :: l, s + 1 => lg l s
def argM (args : Array Value) : Slots := lg args.toList
theorem lg_eq : ∀ (l : List Value) (s : Nat), lg l s = l[s]?
  | [], _ => by simp [lg]
  | v :: l, 0 => rfl
  | v :: l, s + 1 => by simp [lg, lg_eq l s]
theorem Fr.start (args : Array Value) (n : Nat) (hn : args.size ≤ n) : Fr n [] (argM args) { tmps := args ++ Array.replicate (n - args.size) undef, defers := [] } := by
  refine ⟨by simp; omega, rfl, fun s v h => ?_⟩
  have h : args[s]? = some v := by simpa [argM, lg_eq] using h
  obtain ⟨hs, hv⟩ := Array.getElem?_eq_some_iff.1 h
  simp [Array.getD_eq_getD_getElem?, Array.getElem?_append, hs, hv]
end

section
variable {P : Program} {ops : Array Oper} {w w' : World} {o : Oper} {rest : List Oper} {n : Nat} {D : List Deferred} {M : Slots} {v : Value} {r : Option Nat} {Q : Exit → Act → World → Prop}

/-- What an operation does in frames of which this is known. -/
def Runs (P : Program) (n : Nat) (D : List Deferred) (M : Slots) (o : Oper) (w : World) (x : Next) (w' : World) : Prop := ∀ a, Fr n D M a → (execOp a.eval o).run P w = .ok x w'
structure CC (r : Option Nat) (P : Program) (Q : Exit → Act → World → Prop) (n : Nat) (D : List Deferred) (M : Slots) (c : Code) (w : World) : Prop where
  h : ∀ a, Fr n D M a → c.wpIn (Wr r) 3 P Q a w
structure LL (r : Option Nat) (P : Program) (ops : Array Oper) (Q : Exit → Act → World → Prop) (n : Nat) (D : List Deferred) (M : Slots) (l : List Oper) (w : World) : Prop where
  h : ∀ a, Fr n D M a → wpListIn (Wr r) 3 P ops Q l a w
structure SS (P : Program) (ops : Array Oper) (w : World) (R : Act → Prop) (n : Nat) (D : List Deferred) (M : Slots) (l : List Oper) : Prop where
  h : ∀ a, Fr n D M a → wpStill P ops w R l a
structure EE (Q : Exit → Act → World → Prop) (n : Nat) (D : List Deferred) (M : Slots) (e : Exit) (w : World) : Prop where
  h : ∀ a, Fr n D M a → Q e a w

theorem about_wr (a : Act) : ∀ f, o.about P w a.eval = some f → (Wr r).fn f := fun _ _ => trivial
theorem wpIn_of_run {a : Act} {K : Act → World → Prop} (hdf : dfB o.op = false) {x : Next} (h : (execOp a.eval o).run P w = .ok x w') (k : o.uponIn (Wr r) 3 P a K Q (.ok x w')) : o.wpIn (Wr r) 3 P a w K Q := by
  refine ⟨about_wr a, ?_⟩
  rw [Oper.semAt_eq _ _ _ (by intro c hc; rw [hc] at hdf; cases hdf), h]
  exact k

theorem LL.val (hr : Runs P n D M o w (.value v) w') (hd : dstB n o.dst = true) (hdf : dfB o.op = false) (hg : wantB ops M o.guard = some true) (k : LL r P ops Q n D (putM M o.dst v) rest w') : LL r P ops Q n D M (o :: rest) w := LL.mk fun a F => by
  refine wpListIn_step fun K hK => ?_
  rw [if_pos (F.want hg)]
  exact wpIn_of_run hdf (hr a F) (hK _ _ (k.h _ (F.put _ _ hd)))
theorem LL.unit (hr : Runs P n D M o w .skip w') (hd : o.dst = none) (hdf : dfB o.op = false) (hg : wantB ops M o.guard = some true) (k : LL r P ops Q n D M rest w') : LL r P ops Q n D M (o :: rest) w := LL.mk fun a F => by
  refine wpListIn_step fun K hK => ?_
  rw [if_pos (F.want hg)]
  refine wpIn_of_run hdf (hr a F) ?_
  show K (a.put o.dst undef) w'
  rw [hd]
  exact hK _ _ (k.h _ F)
theorem LL.skip (hd : dstB n o.dst = true) (hg : wantB ops M o.guard = some false) (k : LL r P ops Q n D (putM M o.dst undef) rest w) : LL r P ops Q n D M (o :: rest) w := LL.mk fun a F => by
  refine wpListIn_step fun K hK => ?_
  rw [if_neg (by rw [F.want hg]; simp)]
  exact ⟨about_wr a, hK _ _ (k.h _ (F.put _ _ hd))⟩
theorem LL.call {f : FuncId} {args : Array Value} {R : Ending → World → Prop} (hr : Runs P n D M o w (.enter f args) w) (hd : dstB n o.dst = true) (hdf : dfB o.op = false) (hg : wantB ops M o.guard = some true) (hc : Calls P f args w R)
    (k : ∀ e w', R e w' → ∃ v, e = .returned v ∧ LL r P ops Q n D (putM M o.dst v) rest w') : LL r P ops Q n D M (o :: rest) w := LL.mk fun a F => by
  refine wpListIn_step fun K hK => ?_
  rw [if_pos (F.want hg)]
  refine wpIn_of_run hdf (hr a F) ⟨fun h => (by cases h), callsWr (hc.mono fun e w' hR => ?_)⟩
  obtain ⟨v, rfl, hk⟩ := k e w' hR
  exact hK _ _ (hk.h _ (F.put _ _ hd))
/-- The end of a region, where the code goes on. -/
theorem LL.nil (k : EE Q n D M .normal w) : LL r P ops Q n D M [] w := LL.mk fun a F => k.h a F
theorem LL.nilS {y : Code} (k : CC r P Q n D M y w) : LL r P ops (Exit.then (y.wpIn (Wr r) 3 P Q) Q) n D M [] w := LL.mk fun a F => k.h a F

theorem SS.val {R : Act → Prop} (hr : Runs P n D M o w (.value v) w) (hd : dstB n o.dst = true) (hg : wantB ops M o.guard = some true) (k : SS P ops w R n D (putM M o.dst v) rest) : SS P ops w R n D M (o :: rest) := SS.mk fun a F => by
  refine wpStill_step fun K hK => ?_
  rw [if_pos (F.want hg)]
  unfold Oper.still
  rw [hr a F]
  exact ⟨rfl, hK _ (k.h _ (F.put _ _ hd))⟩
theorem SS.skip {R : Act → Prop} (hd : dstB n o.dst = true) (hg : wantB ops M o.guard = some false) (k : SS P ops w R n D (putM M o.dst undef) rest) : SS P ops w R n D M (o :: rest) := SS.mk fun a F => by
  refine wpStill_step fun K hK => ?_
  rw [if_neg (by rw [F.want hg]; simp)]
  exact hK _ (k.h _ (F.put _ _ hd))
theorem SS.call {R : Act → Prop} {f : FuncId} {args : Array Value} (hr : Runs P n D M o w (.enter f args) w) (hd : dstB n o.dst = true) (hg : wantB ops M o.guard = some true) (hc : Calls P f args w fun e w' => e = .returned v ∧ w = w') (k : SS P ops w R n D (putM M o.dst v) rest) : SS P ops w R n D M (o :: rest) := SS.mk fun a F => by
  refine wpStill_step fun K hK => ?_
  rw [if_pos (F.want hg)]
  unfold Oper.still
  rw [hr a F]
  exact ⟨rfl, v, hc.mono fun _ _ h => ⟨h.1, h.2.symm⟩, hK _ (k.h _ (F.put _ _ hd))⟩
theorem SS.nil {l : List Oper} (k : LL r P ops Q n D M l w) : SS P ops w (fun a => wpListIn (Wr r) 3 P ops Q l a w) n D M [] := SS.mk fun a F => wpStill_nil (k.h a F)
theorem SS.nilQ (k : EE Q n D M .normal w) : SS P ops w (fun a => Q .normal a w) n D M [] := SS.mk fun a F => wpStill_nil (k.h a F)

/-! Regions that draw their order, in a round or not. -/
theorem wpIn_of_still {a : Act} {K : Act → Prop} {K' : Act → World → Prop} (hdf : dfB o.op = false) (h : ∀ a, K a → K' a w) (hh : o.still P a w K) : o.wpIn (Wr r) 3 P a w K' Q := by
  unfold Oper.still at hh
  refine ⟨about_wr a, ?_⟩
  rw [Oper.semAt_eq _ _ _ (by intro c hc; rw [hc] at hdf; cases hdf)]
  generalize (execOp a.eval o).run P w = x at *
  cases x with
  | ok y w' =>
    cases y <;> simp only [Oper.stillUpon] at hh <;> simp only [Oper.uponIn]
    case enter f args =>
      obtain ⟨rfl, v, hc, hn⟩ := hh
      exact ⟨fun h => (by cases h), callsWr (hc.mono fun e w'' ⟨he, hw⟩ => by subst he; subst hw; exact h _ hn)⟩
    all_goals (obtain ⟨rfl, h2⟩ := hh; exact h _ h2)
  | halt x w' => simp only [Oper.stillUpon] at hh
theorem wpOpIn_of_stOp {i : Nat} {a : Act} {K : Act → Prop} {K' : Act → World → Prop} (hdf : ∀ (j : Nat) (o : Oper), ops[j]? = some o → dfB o.op = false) (h : ∀ a, K a → K' a w) (hh : stOp P ops w i K a) : wpOpIn (Wr r) 3 P ops Q i K' a w := by
  unfold stOp at hh
  unfold wpOpIn
  split
  · rename_i ho; simp only [ho] at hh; exact h _ hh
  · rename_i o ho
    simp only [ho] at hh
    split
    · rename_i hw; simp only [hw, if_true] at hh; exact wpIn_of_still (hdf _ _ ho) h hh
    · rename_i hw; simp only [hw] at hh; exact ⟨about_wr a, h _ hh⟩
theorem wpAnyIn_of_head {md : Region.Mode} {m g : Nat} {L : Array Bool → Act → Prop} (hdf : ∀ (j : Nat) (o : Oper), ops[j]? = some o → dfB o.op = false) (hL : ∀ listed a, L listed a → wpAnyIn (Wr r) 3 P md ops Q g listed a w) :
    ∀ (f : Nat) (listed : Array Bool) (a : Act), wpAnyL P md ops w m L f listed a → wpAnyIn (Wr r) 3 P md ops Q (f + g) listed a w
  | 0, listed, a, h => by rw [Nat.zero_add]; exact hL _ _ h
  | f + 1, listed, a, h => by
    rw [show f + 1 + g = (f + g) + 1 by omega]
    exact ⟨fun h0 => absurd h0 h.1, fun i hi => wpOpIn_of_stOp hdf (fun a' h' => wpAnyIn_of_head hdf hL f _ a' h') (h.2 i hi).2⟩
theorem wpAnyIn_of_seq {md : Region.Mode} : ∀ (l : List Oper) (k : Nat) (listed : Array Bool) (a : Act) (w : World), (∀ j, l[j]? = ops[k + j]?) →
    Region.seqB md ops l.length k listed = true → wpListIn (Wr r) 3 P ops Q l a w → wpAnyIn (Wr r) 3 P md ops Q l.length listed a w
  | [], _, _, _, _, _, hB, h => ⟨by simpa [Region.seqB] using hB, h⟩
  | o :: l, k, listed, a, w, hl, hB, h => by
    have h0 : ops[k]? = some o := by simpa using (hl 0).symm
    simp only [List.length_cons, Region.seqB, Bool.and_eq_true, decide_eq_true_eq] at hB
    refine ⟨fun h1 => (by rw [hB.1] at h1; cases h1), fun i hi => ?_⟩
    rw [hB.1] at hi
    have hik : i = k := by simpa using hi
    subst hik
    have hw : wpOpIn (Wr r) 3 P ops Q i (wpListIn (Wr r) 3 P ops Q l) a w := by unfold wpOpIn; simp only [h0]; exact h
    exact wpOpIn_mono (fun a' w' h' => wpAnyIn_of_seq l (i + 1) _ a' w' (fun j => by have := hl (j + 1); simpa [Nat.add_assoc, Nat.add_comm 1 j] using this) hB.2 h') hw
theorem wpAnyIn_of_still {md : Region.Mode} {R : Act → Prop} (hdf : ∀ (j : Nat) (o : Oper), ops[j]? = some o → dfB o.op = false) (hQ : ∀ a, R a → Q .normal a w) : ∀ (fuel : Nat) (listed : Array Bool) (a : Act),
    wpAnyS P md ops w R fuel listed a → wpAnyIn (Wr r) 3 P md ops Q fuel listed a w
  | 0, _, _, h => ⟨h.1, hQ _ h.2⟩
  | fuel + 1, _, _, h => ⟨fun h0 => hQ _ (h.1 h0), fun i hi => wpOpIn_of_stOp hdf (fun a' => wpAnyIn_of_still hdf hQ fuel _ a') (h.2 i hi)⟩

/-- Where the first m operations leave the world alone, and the rest follows in one order. -/
theorem CC.tail {id : Nat} {l : List Oper} (m : Nat) (hm : P.follows .mixedOrders = true) (hB : (Region.lexTailB .any l.toArray m && l.all fun o => !dfB o.op) = true)
    (h : SS P l.toArray w.drew (fun a => wpListIn (Wr r) 3 P l.toArray Q (l.drop m) a w.drew) n D M (l.take m)) : CC r P Q n D M (.region id l.toArray true) w := CC.mk fun a F => by
  rw [Bool.and_eq_true] at hB
  obtain ⟨hB, hdf0⟩ := hB
  have hdf : ∀ (j : Nat) o, l.toArray[j]? = some o → dfB o.op = false := fun j o ho => by
    have := List.all_eq_true.1 hdf0 o (by simpa using List.mem_of_getElem? (by simpa using ho))
    simpa using this
  have h := h.h a F
  simp only [Region.lexTailB, Bool.and_eq_true, decide_eq_true_eq] at hB
  obtain ⟨⟨⟨⟨hsel, hn⟩, hs⟩, hc⟩, hlex⟩ := hB
  have hn' : m < l.length := by simpa using hn
  have htl : (l.take m).length = m := by simp; omega
  have hdl : (l.drop m).length = l.toArray.size - m := by simp
  have inv0 : HeadInv .any l.toArray m (Array.replicate l.toArray.size false) :=
    ⟨by simp, fun j oj _ hl => (by rw [getD_replicate_false] at hl; cases hl), fun t _ ht => getD_in (by simpa using ht) (getD_replicate_false _ _)⟩
  have H := wpAnyL_lex (md := .any) (g := l.toArray.size - m) hsel hs hc hn (l.take m) 0 _ a (fun j hj => by
    have hj' : j < m := by rw [htl] at hj; exact hj
    simp [hj']) (by simpa using htl) inv0 (by rw [htl]; exact hlex) h
  refine wpIn_region_any hm ?_
  have := wpAnyIn_of_head (r := r) (Q := Q) (g := l.toArray.size - m) hdf (fun listed a' hL => by
    have := wpAnyIn_of_seq (r := r) (md := .any) (Q := Q) (l.drop m) m listed a' w.drew (fun j => by simp [List.getElem?_drop]) (by rw [hdl]; exact hL.1) hL.2
    rwa [hdl] at this) _ _ _ H
  rw [htl, show m + (l.toArray.size - m) = l.toArray.size by omega] at this
  exact this
/-- Where all leave the world alone. -/
theorem CC.quiet {id : Nat} {l : List Oper} (hm : P.follows .mixedOrders = true) (hB : (Region.lexB .any l.toArray && l.all fun o => !dfB o.op) = true)
    (h : SS P l.toArray w.drew (fun a => Q .normal a w.drew) n D M l) : CC r P Q n D M (.region id l.toArray true) w := CC.mk fun a F => by
  rw [Bool.and_eq_true] at hB
  obtain ⟨hB, hdf0⟩ := hB
  have hdf : ∀ (j : Nat) o, l.toArray[j]? = some o → dfB o.op = false := fun j o ho => by
    have := List.all_eq_true.1 hdf0 o (by simpa using List.mem_of_getElem? (by simpa using ho))
    simpa using this
  simp only [Region.lexB, Bool.and_eq_true] at hB
  refine wpIn_region_any hm (wpAnyIn_of_still (R := fun a' => Q .normal a' w.drew) hdf (fun _ h => h) _ _ _ ?_)
  have := wpAnyS_lex (md := .any) hB.1 l 0 (Array.replicate l.toArray.size false) a (by simp) (by simpa using hB.2) (h.h a F)
  simpa using this

theorem CC.region {id : Nat} {l : List Oper} (h : LL r P l.toArray Q n D M l w) : CC r P Q n D M (.region id l.toArray false) w := CC.mk fun a F => wpIn_region_lit (h.h a F)
theorem CC.seq {x y : Code} (h : CC r P (Exit.then (y.wpIn (Wr r) 3 P Q) Q) n D M x w) : CC r P Q n D M (.seq x y) w := CC.mk fun a F => wpIn_seq (h.h a F)
theorem CC.yes {c : Operand} {x y : Code} (hc : evM M c = some (.bool true)) (h : CC r P Q n D M x w) : CC r P Q n D M (.cond c x y) w := CC.mk fun a F => wpIn_cond_true (F.ev hc) (h.h a F)
theorem CC.no {c : Operand} {x y : Code} (hc : evM M c = some (.bool false)) (h : CC r P Q n D M y w) : CC r P Q n D M (.cond c x y) w := CC.mk fun a F => wpIn_cond_false (F.ev hc) (h.h a F)
theorem CC.if {c : Operand} {x y : Code} {t : Bool} (hc : evM M c = some (.bool t)) (h1 : t = true → CC r P Q n D M x w) (h2 : t = false → CC r P Q n D M y w) : CC r P Q n D M (.cond c x y) w := CC.mk fun a F => wpIn_cond_split (F.ev hc) (fun h => (h1 h).h a F) (fun h => (h2 h).h a F)
theorem CC.block {id : Nat} {c : Code} (h : CC r P (Exit.inBlock id Q) n D M c w) : CC r P Q n D M (.block id c) w := CC.mk fun a F => wpIn_block (h.h a F)
theorem CC.skip (h : EE Q n D M .normal w) : CC r P Q n D M .skip w := CC.mk fun a F => wpIn_skip (h.h a F)
theorem CC.label {l : Nat} (h : EE Q n D M .normal w) : CC r P Q n D M (.label l) w := CC.mk fun a F => wpIn_label (h.h a F)
theorem CC.exit {id : Nat} (h : EE Q n D M (.exit id) w) : CC r P Q n D M (.exit id) w := CC.mk fun a F => wpIn_exit (h.h a F)
theorem CC.goto {id : Nat} (h : EE Q n D M (.goto id) w) : CC r P Q n D M (.goto id) w := CC.mk fun a F => wpIn_goto (h.h a F)
theorem CC.ret (h : EE Q n D M .ret w) : CC r P Q n D M .ret w := CC.mk fun a F => wpIn_ret (h.h a F)
theorem CC.keep {c : Code} (L : List (Nat × Value)) (hL : Fits M L) (h : CC r P Q n D (sl L) c w) : CC r P Q n D M c w := CC.mk fun a F => h.h a (F.keep L hL)
/-- The loop: α says where it stands. -/
theorem CC.loop {α : Type} {c : Code} (L : α → List (Nat × Value)) (I : α → World → Prop) (μ : α → Nat) (p0 : α) (hL : Fits M (L p0)) (h0 : I p0 w)
    (round : ∀ p w, I p w → CC r P (Exit.then (fun a' w' => ∃ p', Fr n D (sl (L p')) a' ∧ I p' w' ∧ μ p' < μ p) Q) n D (sl (L p)) c w) : CC r P Q n D M (.loop c) w := CC.mk fun a F => by
  classical
  let J : Act → World → Nat → Prop := fun a w m => ∃ p, Fr n D (sl (L p)) a ∧ I p w ∧ μ p ≤ m
  have mono : ∀ {a w m m'}, m ≤ m' → J a w m → J a w m' := fun h ⟨p, h1, h2, h3⟩ => ⟨p, h1, h2, Nat.le_trans h3 h⟩
  have least : ∀ a w, (∃ m, J a w m) → ∃ m, J a w m ∧ ∀ k, J a w k → m ≤ k := by
    rintro a w ⟨m, hm⟩
    induction m using Nat.strongRecOn with
    | _ m ih =>
      by_cases h : ∃ k, k < m ∧ J a w k
      · obtain ⟨k, hk, hj⟩ := h; exact ih k hk hj
      · exact ⟨m, hm, fun k hk => by
          rcases Nat.lt_or_ge k m with h' | h'
          · exact absurd ⟨k, h', hk⟩ h
          · exact h'⟩
  refine wpIn_loop (fun a w => ∃ m, J a w m) (fun a w => if h : ∃ m, J a w m then Classical.choose (least a w h) else 0) ⟨μ p0, p0, F.keep _ hL, h0, Nat.le_refl _⟩ ?_
  intro a w hI
  have hl := Classical.choose_spec (least a w hI)
  rw [dif_pos hI]
  obtain ⟨p, hF, hp, hm⟩ := hl.1
  refine Code.wpIn_mono ?_ ((round p w hp).h a hF)
  intro e a' w' hq
  cases e <;> try exact hq
  obtain ⟨p', hF', hp', hlt⟩ := hq
  have hI' : ∃ m, J a' w' m := ⟨μ p', p', hF', hp', Nat.le_refl _⟩
  refine ⟨hI', ?_⟩
  rw [dif_pos hI']
  have := (Classical.choose_spec (least a' w' hI')).2 (μ p') ⟨p', hF', hp', Nat.le_refl _⟩
  omega
/-- A round's end. -/
theorem EE.round {α : Type} {L : α → List (Nat × Value)} {I : α → World → Prop} {μ : α → Nat} {p : α} (p' : α) (hL : Fits M (L p')) (hI : I p' w) (hμ : μ p' < μ p) : EE (Exit.then (fun a' w' => ∃ p', Fr n D (sl (L p')) a' ∧ I p' w' ∧ μ p' < μ p) Q) n D M .normal w := EE.mk fun _ F => ⟨p', F.keep _ hL, hI, hμ⟩

theorem EE.thenN {y : Code} (h : CC r P Q n D M y w) : EE (Exit.then (y.wpIn (Wr r) 3 P Q) Q) n D M .normal w := EE.mk fun a F => h.h a F
theorem EE.thenX {K : Act → World → Prop} {i : Nat} (h : EE Q n D M (.exit i) w) : EE (Exit.then K Q) n D M (.exit i) w := EE.mk fun a F => h.h a F
theorem EE.thenR {K : Act → World → Prop} (h : EE Q n D M .ret w) : EE (Exit.then K Q) n D M .ret w := EE.mk fun a F => h.h a F
theorem EE.thenG {K : Act → World → Prop} {i : Nat} (h : EE Q n D M (.goto i) w) : EE (Exit.then K Q) n D M (.goto i) w := EE.mk fun a F => h.h a F
theorem EE.inN {i : Nat} (h : EE Q n D M .normal w) : EE (Exit.inBlock i Q) n D M .normal w := EE.mk fun a F => h.h a F
theorem EE.inX {i : Nat} (h : EE Q n D M .normal w) : EE (Exit.inBlock i Q) n D M (.exit i) w := EE.mk fun a F => by simp only [Exit.inBlock, if_true]; exact h.h a F
theorem EE.inX' {i j : Nat} (hne : Nat.beq j i = false) (h : EE Q n D M (.exit j) w) : EE (Exit.inBlock i Q) n D M (.exit j) w := EE.mk fun a F => by
  have : j ≠ i := fun e => by subst e; rw [Nat.beq_refl] at hne; cases hne
  simp only [Exit.inBlock, if_neg this]; exact h.h a F
theorem EE.inR {i : Nat} (h : EE Q n D M .ret w) : EE (Exit.inBlock i Q) n D M .ret w := EE.mk fun a F => h.h a F
theorem EE.inG {i j : Nat} (h : EE Q n D M (.goto j) w) : EE (Exit.inBlock i Q) n D M (.goto j) w := EE.mk fun a F => h.h a F

/-! Returns. -/
def resM (M : Slots) : List ResultVar → Option (List Value)
  | [] => some []
  | .tmp t :: l => match M t, resM M l with
    | some v, some vs => some (v :: vs)
    | _, _ => none
  | .cell _ _ :: _ => none
def resV : List Value → Value
  | [v] => v
  | vs => .tuple vs.toArray
theorem results_run {fn : Func} {a : Act} {vs : List Value} (F : Fr n D M a) (h : resM M fn.results.toList = some vs) (h3 : vs.length ≤ 3) : (results fn a.tmps).run P w = .ok (resV vs) w := by
  obtain ⟨l, hl⟩ : ∃ l, fn.results = l.toArray := ⟨fn.results.toList, by simp⟩
  rw [hl] at h
  simp only [List.toList_toArray] at h
  have key : ∀ (l : List ResultVar) (vs : List Value), resM M l = some vs → ∃ ts : List Tmp, l = ts.map .tmp ∧ vs = ts.map fun t => a.tmps.getD t undef := by
    intro l
    induction l with
    | nil => intro vs h; cases h; exact ⟨[], rfl, rfl⟩
    | cons x l ih =>
      intro vs h
      cases x with
      | cell => cases h
      | tmp t =>
        simp only [resM] at h
        cases ht : M t with
        | none => rw [ht] at h; cases h
        | some v =>
          cases hr : resM M l with
          | none => rw [ht, hr] at h; cases h
          | some us =>
            rw [ht, hr] at h
            cases h
            obtain ⟨ts, rfl, rfl⟩ := ih us hr
            exact ⟨t :: ts, rfl, by simp [← F.get t v ht]⟩
  obtain ⟨ts, rfl, rfl⟩ := key l vs h
  rw [List.length_map] at h3
  match ts, h3 with
  | [], _ => simp [results, hl, resV]
  | [t], _ => exact results_tmp hl _ _ _
  | [t, u], _ => exact results_tmp2 hl _ _ _
  | [t, u, x], _ => exact results_tmp3 hl _ _ _
end
end Go.Proofs.Ytajfffoaebjnlaa
