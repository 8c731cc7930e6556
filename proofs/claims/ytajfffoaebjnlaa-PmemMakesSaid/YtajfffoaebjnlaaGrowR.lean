/- Regions that draw their order, whose steps yield the same values in whatever world that is left as it is but for new memory: one walk for all orders, calls that make memory of their own among them. Over any program. -/
import Derived.Test.YtajfffoaebjnlaaAuto
namespace Go.Proofs.Ytajfffoaebjnlaa
set_option linter.unusedVariables false
set_option linter.unusedSimpArgs false
open Go.RowKit Go.Shelf

section
variable {P : Program} {ops : Array Oper} {Q : Exit → Act → World → Prop} {ok : World → Prop} {r : Option Nat} {v : Value} {o : Oper}

/-- It yields v in all these worlds, and leaves one of them. -/
def YG (P : Program) (ops : Array Oper) (ok : World → Prop) (o : Oper) (v : Value) (a : Act) : Prop :=
  (Region.wanted o (yielded ops a.tmps) = true ∧ ∀ w, ok w → (execOp a.eval o).run P w = .ok (.value v) w ∨ ∃ f args, (execOp a.eval o).run P w = .ok (.enter f args) w ∧ Calls P f args w (fun e w' => e = .returned v ∧ ok w')) ∨
  (Region.wanted o (yielded ops a.tmps) = false ∧ v = undef)
def stG (P : Program) (ops : Array Oper) (ok : World → Prop) (i : Nat) (K : Act → Prop) (a : Act) : Prop :=
  match ops[i]? with
  | none => K a
  | some o => ∃ v, YG P ops ok o v a ∧ K (a.put o.dst v)
theorem stG_mono {i : Nat} {K K' : Act → Prop} {a : Act} (h : ∀ a, K a → K' a) (hh : stG P ops ok i K a) : stG P ops ok i K' a := by
  unfold stG at *
  split
  · rename_i ho; simp only [ho] at hh; exact h _ hh
  · rename_i o ho; simp only [ho] at hh; obtain ⟨v, h1, h2⟩ := hh; exact ⟨v, h1, h _ h2⟩
theorem YG.same {a a' : Act} (hy : YG P ops ok o v a) (he : execOp a'.eval o = execOp a.eval o) (hw : Region.wanted o (yielded ops a'.tmps) = Region.wanted o (yielded ops a.tmps)) : YG P ops ok o v a' := by
  unfold YG at *
  rw [he, hw]
  exact hy
theorem stG_put {j : Nat} {oi oj : Oper} {a : Act} (hj : ops[j]? = some oj) (hap : oi.apart ops oj = true) (hsi : ∀ cs b, oi.op ≠ .select cs b) (hsj : ∀ cs b, oj.op ≠ .select cs b) {K : Act → Prop}
    (hy : YG P ops ok oi v a) (h : stG P ops ok j K (a.put oi.dst v)) : stG P ops ok j (fun a' => YG P ops ok oi v a' ∧ K (a'.put oi.dst v)) a := by
  obtain ⟨h1, h2, h3⟩ := Oper.apart_spec hap
  unfold stG at *
  simp only [hj] at *
  obtain ⟨u, e1, e2⟩ := h
  exact ⟨u, e1.same (execOp_put oj hsj a oi.dst v h1).symm (wanted_put oj a oi.dst v h1).symm, hy.same (execOp_put oi hsi a oj.dst u h3) (wanted_put oi a oj.dst u h3), by rw [← Act.put_comm a v u h2]; exact e2⟩
theorem wpIn_of_YG {a : Act} {w : World} {K : Act → World → Prop} (hdf : dfB o.op = false) (hw : ok w) (hwt : Region.wanted o (yielded ops a.tmps) = true) (hy : YG P ops ok o v a) (hk : ∀ w', ok w' → K (a.put o.dst v) w') : o.wpIn (Wr r) 3 P a w K Q := by
  rcases hy with ⟨_, hv⟩ | ⟨h, _⟩
  · rcases hv w hw with h1 | ⟨f, args, h1, hc⟩
    · exact wpIn_of_run hdf h1 (hk w hw)
    · exact wpIn_of_run hdf h1 ⟨fun h => (by cases h), callsWr (hc.mono fun e w' ⟨he, hw'⟩ => by subst he; exact hk w' hw')⟩
  · rw [hwt] at h; cases h
theorem wpOpIn_of_stG {i : Nat} {a : Act} {w : World} {K : Act → Prop} {K' : Act → World → Prop} (hdf : ∀ (j : Nat) (o : Oper), ops[j]? = some o → dfB o.op = false) (hw : ok w) (h : ∀ a w, ok w → K a → K' a w) (hh : stG P ops ok i K a) : wpOpIn (Wr r) 3 P ops Q i K' a w := by
  unfold stG at hh
  unfold wpOpIn
  split
  · rename_i ho; simp only [ho] at hh; exact h _ _ hw hh
  · rename_i o ho
    simp only [ho] at hh
    obtain ⟨v, hy, hk⟩ := hh
    split
    · rename_i hwt; exact wpIn_of_YG (hdf _ _ ho) hw hwt hy fun w' hw' => h _ _ hw' hk
    · rename_i hwt
      rcases hy with ⟨h1, _⟩ | ⟨_, rfl⟩
      · exact absurd h1 hwt
      · exact ⟨about_wr a, h _ _ hw hk⟩
/-- All orders, all steps. -/
def AnyG (P : Program) (ops : Array Oper) (ok : World → Prop) (K : Act → Prop) : Nat → Array Bool → Act → Prop
  | 0, listed, a => Region.ready .any ops listed = [] ∧ K a
  | f + 1, listed, a => (Region.ready .any ops listed = [] → K a) ∧ ∀ i ∈ Region.ready .any ops listed, stG P ops ok i (AnyG P ops ok K f (listed.setIfInBounds i true)) a
theorem YG.stG {i : Nat} {a : Act} {K : Act → Prop} (hi : ops[i]? = some o) (hy : YG P ops ok o v a) (h : K (a.put o.dst v)) : stG P ops ok i K a := by
  unfold Proofs.Ytajfffoaebjnlaa.stG
  simp only [hi]
  exact ⟨v, hy, h⟩
theorem AnyG_first {i : Nat} {oi : Oper} {K : Act → Prop} (hi : ops[i]? = some oi) (hsel : ∀ (j : Nat) (o : Oper) cs b, ops[j]? = some o → o.op ≠ .select cs b) :
    ∀ (f : Nat) (listed : Array Bool) (a : Act),
      (∀ j oj, ops[j]? = some oj → j ≠ i → listed.getD j true = false → (∀ e ∈ oj.after, Region.binds .any e = true → e.on ≠ i) → oi.apart ops oj = true) →
      i ∈ Region.ready .any ops listed → YG P ops ok oi v a → AnyG P ops ok K f (listed.setIfInBounds i true) (a.put oi.dst v) → AnyG P ops ok K (f + 1) listed a := by
  intro f
  induction f with
  | zero =>
    intro listed a _ hr hy H
    refine ⟨fun h => (by rw [h] at hr; cases hr), fun j hj => ?_⟩
    by_cases hji : j = i
    · subst hji; exact hy.stG hi H
    · have := ready_mono hj hji
      rw [H.1] at this
      cases this
  | succ f ih =>
    intro listed a hfree hr hy H
    refine ⟨fun h => (by rw [h] at hr; cases hr), fun j hj => ?_⟩
    by_cases hji : j = i
    · subst hji; exact hy.stG hi H
    · have h1 := H.2 j (ready_mono hj hji)
      obtain ⟨hjun, oj, hoj, hall⟩ := mem_ready.1 hj
      have hnot : ∀ e ∈ oj.after, Region.binds .any e = true → e.on ≠ i := fun e he hb heq => by
        have h1 := hall e he hb
        rw [heq, getD_both (mem_ready.1 hr).1] at h1
        cases h1
      have h2 := stG_put hoj (hfree j oj hoj hji hjun hnot) (fun cs b => hsel i oi cs b hi) (fun cs b => hsel j oj cs b hoj) hy h1
      have hfree' : ∀ k ok', ops[k]? = some ok' → k ≠ i → (listed.setIfInBounds j true).getD k true = false →
          (∀ e ∈ ok'.after, Region.binds .any e = true → e.on ≠ i) → oi.apart ops ok' = true := fun k ok' hk hki hun hno => by
        refine hfree k ok' hk hki ?_ hno
        by_cases hjk : j = k
        · subst hjk; exact hjun
        · rw [getD_set_ne true hjk] at hun; exact hun
      refine stG_mono (fun a' h3 => ih (listed.setIfInBounds j true) a' hfree' (ready_mono hr (Ne.symm hji)) h3.1 ?_) h2
      rw [Array.setIfInBounds_comm _ _ hji]
      exact h3.2
/-- One walk, in the order of the text. -/
def walkG (P : Program) (ops : Array Oper) (ok : World → Prop) (K : Act → Prop) : List Oper → Act → Prop
  | [], a => K a
  | o :: l, a => ∃ v, YG P ops ok o v a ∧ walkG P ops ok K l (a.put o.dst v)
theorem AnyG_lex {K : Act → Prop} (hs : Region.noSelect ops = true) : ∀ (l : List Oper) (k : Nat) (listed : Array Bool) (a : Act), (∀ j, l[j]? = ops[k + j]?) →
    Region.lexFrom .any ops l.length k listed = true → walkG P ops ok K l a → AnyG P ops ok K l.length listed a
  | [], _, _, _, _, hB, h => ⟨by simpa [Region.lexFrom] using hB, h⟩
  | o :: l, k, listed, a, hl, hB, h => by
    have h0 : ops[k]? = some o := by simpa using (hl 0).symm
    simp only [List.length_cons, Region.lexFrom, Bool.and_eq_true] at hB
    obtain ⟨⟨hr, hf⟩, hB'⟩ := hB
    obtain ⟨v, hy, hK⟩ := h
    exact AnyG_first h0 (Region.noSelect_spec hs) l.length listed a (Region.free_spec h0 hf) (by simpa using hr) hy
      (AnyG_lex hs l (k + 1) _ _ (fun j => by have := hl (j + 1); simpa [Nat.add_assoc, Nat.add_comm 1 j] using this) hB' hK)
theorem wpAnyIn_of_AnyG {K : Act → Prop} (hdf : ∀ (j : Nat) (o : Oper), ops[j]? = some o → dfB o.op = false) (hQ : ∀ a w, ok w → K a → Q .normal a w) : ∀ (f : Nat) (listed : Array Bool) (a : Act) (w : World),
    ok w → AnyG P ops ok K f listed a → wpAnyIn (Wr r) 3 P .any ops Q f listed a w
  | 0, _, _, _, hw, h => ⟨h.1, hQ _ _ hw h.2⟩
  | f + 1, listed, a, w, hw, h => ⟨fun h0 => hQ _ _ hw (h.1 h0), fun i hi => wpOpIn_of_stG hdf hw (fun a' w' hw' h' => wpAnyIn_of_AnyG hdf hQ f _ a' w' hw' h') (h.2 i hi)⟩
/-- The same with a tail that follows in one order. -/
def HeadG (P : Program) (ops : Array Oper) (ok : World → Prop) (n : Nat) (L : Array Bool → Act → Prop) : Nat → Array Bool → Act → Prop
  | 0, listed, a => L listed a
  | f + 1, listed, a => Region.ready .any ops listed ≠ [] ∧ ∀ i ∈ Region.ready .any ops listed, i < n ∧ stG P ops ok i (HeadG P ops ok n L f (listed.setIfInBounds i true)) a
theorem HeadG_first {n i : Nat} {oi : Oper} {L : Array Bool → Act → Prop} (hi : ops[i]? = some oi) (hsel : ∀ (j : Nat) (o : Oper) cs b, ops[j]? = some o → o.op ≠ .select cs b)
    (hs : Region.sinkB .any ops n = true) (hc : Region.chainB .any ops n = true) (hn : n < ops.size) (hin : i < n)
    (hdone : ∀ listed a, L listed a → ∀ j ∈ Region.ready .any ops listed, n ≤ j) :
    ∀ (f : Nat) (listed : Array Bool) (a : Act), HeadInv .any ops n listed →
      (∀ j oj, ops[j]? = some oj → j ≠ i → listed.getD j true = false → (∀ e ∈ oj.after, Region.binds .any e = true → e.on ≠ i) → oi.apart ops oj = true) →
      i ∈ Region.ready .any ops listed → YG P ops ok oi v a →
      HeadG P ops ok n L f (listed.setIfInBounds i true) (a.put oi.dst v) → HeadG P ops ok n L (f + 1) listed a := by
  intro f
  induction f with
  | zero =>
    intro listed a inv _ hr hy H
    have hun := (mem_ready.1 hr).1
    refine ⟨fun h => (by rw [h] at hr; cases hr), fun j hj => ?_⟩
    have hjn : j < n := by
      rcases Nat.lt_or_ge j n with h | h
      · exact h
      · exact absurd hj (tail_waits hs hc hn inv _ i rfl hin hun j h)
    refine ⟨hjn, ?_⟩
    by_cases hji : j = i
    · subst hji; exact hy.stG hi H
    · have := hdone _ _ H j (ready_mono hj hji)
      omega
  | succ f ih =>
    intro listed a inv hfree hr hy H
    have hun := (mem_ready.1 hr).1
    refine ⟨fun h => (by rw [h] at hr; cases hr), fun j hj => ?_⟩
    have hjn : j < n := by
      rcases Nat.lt_or_ge j n with h | h
      · exact h
      · exact absurd hj (tail_waits hs hc hn inv _ i rfl hin hun j h)
    refine ⟨hjn, ?_⟩
    by_cases hji : j = i
    · subst hji; exact hy.stG hi H
    · have h1 := (H.2 j (ready_mono hj hji)).2
      obtain ⟨hjun, oj, hoj, hall⟩ := mem_ready.1 hj
      have hnot : ∀ e ∈ oj.after, Region.binds .any e = true → e.on ≠ i := fun e he hb heq => by
        have h1 := hall e he hb
        rw [heq, getD_both hun] at h1
        cases h1
      have h2 := stG_put hoj (hfree j oj hoj hji hjun hnot) (fun cs b => hsel i oi cs b hi) (fun cs b => hsel j oj cs b hoj) hy h1
      have hfree' : ∀ k ok', ops[k]? = some ok' → k ≠ i → (listed.setIfInBounds j true).getD k true = false →
          (∀ e ∈ ok'.after, Region.binds .any e = true → e.on ≠ i) → oi.apart ops ok' = true := fun k ok' hk hki hun hno => by
        refine hfree k ok' hk hki ?_ hno
        by_cases hjk : j = k
        · subst hjk; exact hjun
        · rw [getD_set_ne true hjk] at hun; exact hun
      refine stG_mono (fun a' h3 => ih (listed.setIfInBounds j true) a' (inv.set hj hjn) hfree' (ready_mono hr (Ne.symm hji)) h3.1 ?_) h2
      rw [Array.setIfInBounds_comm _ _ hji]
      exact h3.2
theorem HeadG_lex {n g : Nat} {Lq : Act → Prop} (hsel : Region.noSelect ops = true) (hs : Region.sinkB .any ops n = true) (hc : Region.chainB .any ops n = true) (hn : n < ops.size) :
    ∀ (l : List Oper) (k : Nat) (listed : Array Bool) (a : Act), (∀ j, j < l.length → l[j]? = ops[k + j]?) → k + l.length = n → HeadInv .any ops n listed →
    Region.lexHead .any ops g l.length k listed = true → walkG P ops ok Lq l a →
    HeadG P ops ok n (fun listed' a' => Region.seqB .any ops g n listed' = true ∧ Lq a') l.length listed a
  | [], k, listed, a, _, hk, _, hB, h => by
    have : k = n := by simpa using hk
    subst this
    exact ⟨by simpa [Region.lexHead] using hB, h⟩
  | o :: l, k, listed, a, hl, hk, inv, hB, h => by
    have h0 : ops[k]? = some o := by simpa using (hl 0 (by simp)).symm
    simp only [List.length_cons, Region.lexHead, Bool.and_eq_true] at hB
    obtain ⟨⟨hr, hf⟩, hB'⟩ := hB
    have hkn : k < n := by simp only [List.length_cons] at hk; omega
    have hr' : k ∈ Region.ready .any ops listed := by simpa using hr
    obtain ⟨v, hy, hK⟩ := h
    exact HeadG_first h0 (Region.noSelect_spec hsel) hs hc hn hkn (fun listed' a' hL => seqB_ready hL.1) l.length listed a inv (Region.free_spec h0 hf) hr' hy
      (HeadG_lex hsel hs hc hn l (k + 1) _ _ (fun j hj => by have := hl (j + 1) (by simp; omega); simpa [Nat.add_assoc, Nat.add_comm 1 j] using this) (by simp only [List.length_cons] at hk; omega) (inv.set hr' hkn) hB' hK)
theorem wpAnyIn_of_HeadG {n g : Nat} {L : Array Bool → Act → Prop} (hdf : ∀ (j : Nat) (o : Oper), ops[j]? = some o → dfB o.op = false) (hL : ∀ listed a w, ok w → L listed a → wpAnyIn (Wr r) 3 P .any ops Q g listed a w) :
    ∀ (f : Nat) (listed : Array Bool) (a : Act) (w : World), ok w → HeadG P ops ok n L f listed a → wpAnyIn (Wr r) 3 P .any ops Q (f + g) listed a w
  | 0, listed, a, w, hw, h => by rw [Nat.zero_add]; exact hL _ _ _ hw h
  | f + 1, listed, a, w, hw, h => by
    rw [show f + 1 + g = (f + g) + 1 by omega]
    exact ⟨fun h0 => absurd h0 h.1, fun i hi => wpOpIn_of_stG hdf hw (fun a' w' hw' h' => wpAnyIn_of_HeadG hdf hL f _ a' w' hw' h') (h.2 i hi).2⟩

/-! Goals. -/
structure GG (P : Program) (ops : Array Oper) (ok : World → Prop) (K : Act → Prop) (n : Nat) (D : List Deferred) (M : Slots) (l : List Oper) : Prop where
  h : ∀ a, Fr n D M a → walkG P ops ok K l a
variable {n : Nat} {D : List Deferred} {M : Slots} {rest l : List Oper} {K : Act → Prop} {w : World}
theorem GG.val (hr : ∀ w, ok w → Runs P n D M o w (.value v) w) (hd : dstB n o.dst = true) (hg : wantB ops M o.guard = some true) (k : GG P ops ok K n D (putM M o.dst v) rest) : GG P ops ok K n D M (o :: rest) := GG.mk fun a F =>
  ⟨v, .inl ⟨F.want hg, fun w hw => .inl (hr w hw a F)⟩, k.h _ (F.put _ _ hd)⟩
theorem GG.skip (hd : dstB n o.dst = true) (hg : wantB ops M o.guard = some false) (k : GG P ops ok K n D (putM M o.dst undef) rest) : GG P ops ok K n D M (o :: rest) := GG.mk fun a F =>
  ⟨undef, .inr ⟨F.want hg, rfl⟩, k.h _ (F.put _ _ hd)⟩
theorem GG.call {f : FuncId} {args : Array Value} (hr : ∀ w, Runs P n D M o w (.enter f args) w) (hd : dstB n o.dst = true) (hg : wantB ops M o.guard = some true) (hc : ∀ w, ok w → Calls P f args w fun e w' => e = .returned v ∧ ok w') (k : GG P ops ok K n D (putM M o.dst v) rest) : GG P ops ok K n D M (o :: rest) := GG.mk fun a F =>
  ⟨v, .inl ⟨F.want hg, fun w hw => .inr ⟨f, args, hr w a F, hc w hw⟩⟩, k.h _ (F.put _ _ hd)⟩
theorem GG.vsplit {p : Prop} [Decidable p] (ht : p → ∀ w, ok w → Runs P n D M o w (.value (.bool true)) w) (hf : ¬p → ∀ w, ok w → Runs P n D M o w (.value (.bool false)) w) (hd : dstB n o.dst = true) (hg : wantB ops M o.guard = some true)
    (k1 : p → GG P ops ok K n D (putM M o.dst (.bool true)) rest) (k2 : ¬p → GG P ops ok K n D (putM M o.dst (.bool false)) rest) : GG P ops ok K n D M (o :: rest) := by
  by_cases h : p
  · exact GG.val (ht h) hd hg (k1 h)
  · exact GG.val (hf h) hd hg (k2 h)
theorem GG.callDT {f : FuncId} {args : Array Value} {p : Prop} [Decidable p] (hr : ∀ w, Runs P n D M o w (.enter f args) w) (hd : dstB n o.dst = true) (hg : wantB ops M o.guard = some true) (hc : ∀ w, ok w → Calls P f args w fun e w' => e = .returned (.bool (decide p)) ∧ ok w') (h : p) (k : GG P ops ok K n D (putM M o.dst (.bool true)) rest) : GG P ops ok K n D M (o :: rest) := by
  simp only [decide_eq_true h] at hc
  exact GG.call hr hd hg hc k
theorem GG.callDF {f : FuncId} {args : Array Value} {p : Prop} [Decidable p] (hr : ∀ w, Runs P n D M o w (.enter f args) w) (hd : dstB n o.dst = true) (hg : wantB ops M o.guard = some true) (hc : ∀ w, ok w → Calls P f args w fun e w' => e = .returned (.bool (decide p)) ∧ ok w') (h : ¬p) (k : GG P ops ok K n D (putM M o.dst (.bool false)) rest) : GG P ops ok K n D M (o :: rest) := by
  simp only [decide_eq_false h] at hc
  exact GG.call hr hd hg hc k
theorem GG.callD {f : FuncId} {args : Array Value} {p : Prop} [Decidable p] (hr : ∀ w, Runs P n D M o w (.enter f args) w) (hd : dstB n o.dst = true) (hg : wantB ops M o.guard = some true) (hc : ∀ w, ok w → Calls P f args w fun e w' => e = .returned (.bool (decide p)) ∧ ok w') (k1 : p → GG P ops ok K n D (putM M o.dst (.bool true)) rest) (k2 : ¬p → GG P ops ok K n D (putM M o.dst (.bool false)) rest) : GG P ops ok K n D M (o :: rest) := by
  by_cases h : p
  · exact GG.callDT hr hd hg hc h (k1 h)
  · exact GG.callDF hr hd hg hc h (k2 h)
theorem GG.nil (k : ∀ w, ok w → LL r P ops Q n D M l w) : GG P ops ok (fun a => ∀ w, ok w → wpListIn (Wr r) 3 P ops Q l a w) n D M [] := GG.mk fun a F w hw => (k w hw).h a F
theorem GG.nilQ (k : ∀ w, ok w → EE Q n D M .normal w) : GG P ops ok (fun a => ∀ w, ok w → Q .normal a w) n D M [] := GG.mk fun a F w hw => (k w hw).h a F
theorem GG.keep (L : List (Nat × Value)) (hL : Fits M L) (h : GG P ops ok K n D (sl L) rest) : GG P ops ok K n D M rest := GG.mk fun a F => h.h a (F.keep L hL)
/-- Where all yield the same, whatever new memory there is. -/
theorem CC.grow {id : Nat} (hm : P.follows .mixedOrders = true) (hB : (Region.lexB .any l.toArray && l.all fun o => !dfB o.op) = true)
    (h : GG P l.toArray (fun W => Below w.heap.size w W) (fun a => ∀ W, Below w.heap.size w W → Q .normal a W) n D M l) : CC r P Q n D M (.region id l.toArray true) w := CC.mk fun a F => by
  rw [Bool.and_eq_true] at hB
  obtain ⟨hB, hdf0⟩ := hB
  have hdf : ∀ (j : Nat) o, l.toArray[j]? = some o → dfB o.op = false := fun j o ho => by
    have := List.all_eq_true.1 hdf0 o (by simpa using List.mem_of_getElem? (by simpa using ho))
    simpa using this
  simp only [Region.lexB, Bool.and_eq_true] at hB
  refine wpIn_region_any hm (wpAnyIn_of_AnyG (ok := fun W => Below w.heap.size w W) (K := fun a' => ∀ W, Below w.heap.size w W → Q .normal a' W) hdf (fun _ _ hw h => h _ hw) _ _ _ _ below_drew ?_)
  have := AnyG_lex (P := P) hB.1 l 0 (Array.replicate l.toArray.size false) a (by simp) (by simpa using hB.2) (h.h a F)
  simpa using this
theorem CC.growT {id : Nat} (m : Nat) (hm : P.follows .mixedOrders = true) (hB : (Region.lexTailB .any l.toArray m && l.all fun o => !dfB o.op) = true)
    (h : GG P l.toArray (fun W => Below w.heap.size w W) (fun a => ∀ W, Below w.heap.size w W → wpListIn (Wr r) 3 P l.toArray Q (l.drop m) a W) n D M (l.take m)) : CC r P Q n D M (.region id l.toArray true) w := CC.mk fun a F => by
  rw [Bool.and_eq_true] at hB
  obtain ⟨hB, hdf0⟩ := hB
  have hdf : ∀ (j : Nat) o, l.toArray[j]? = some o → dfB o.op = false := fun j o ho => by
    have := List.all_eq_true.1 hdf0 o (by simpa using List.mem_of_getElem? (by simpa using ho))
    simpa using this
  have h := h.h a F
  simp only [Region.lexTailB, Bool.and_eq_true, decide_eq_true_eq] at hB
  obtain ⟨⟨⟨⟨hsel, hn⟩, hs⟩, hc⟩, hlex⟩ := hB
  have hn' : m < l.length := by simpa using hn
  have htl : (l.take m).length = m := by simp; omega
  have hdl : (l.drop m).length = l.toArray.size - m := by simp
  have inv0 : HeadInv .any l.toArray m (Array.replicate l.toArray.size false) :=
    ⟨by simp, fun j oj _ hl => (by rw [getD_replicate_false] at hl; cases hl), fun t _ ht => getD_in (by simpa using ht) (getD_replicate_false _ _)⟩
  have H := HeadG_lex (P := P) (g := l.toArray.size - m) hsel hs hc hn (l.take m) 0 _ a (fun j hj => by
    have hj' : j < m := by rw [htl] at hj; exact hj
    simp [hj']) (by simpa using htl) inv0 (by rw [htl]; exact hlex) h
  refine wpIn_region_any hm ?_
  have := wpAnyIn_of_HeadG (ok := fun W => Below w.heap.size w W) (r := r) (Q := Q) (g := l.toArray.size - m) hdf (fun listed a' w' hw' hL => by
    have := wpAnyIn_of_seq (r := r) (md := .any) (Q := Q) (l.drop m) m listed a' w' (fun j => by simp [List.getElem?_drop]) (by rw [hdl]; exact hL.1) (hL.2 w' hw')
    rwa [hdl] at this) _ _ _ w.drew below_drew H
  rw [htl, show m + (l.toArray.size - m) = l.toArray.size by omega] at this
  exact this
end
end Go.Proofs.Ytajfffoaebjnlaa
