/- What the statements' walks use: GrowR, FreeZ, Grow, Sl, TWalk, OwnZ, CellE, EqS, Arr, EqA, Zeros, Mesh, TNew, So1, So2, So3, So4, So5, So6, So7, So8. -/
import Derived.Deep.RegionLawGrows
import Derived.Deep.RegionWith
import Derived.Tactics
import Derived.Tactics2
import Derived.ChangeKeysEq
import Derived.Laws.StructEq
import Derived.Lib.AppendZerosOnto
import Derived.Deep.Upon
import Derived.Test.YtfplilpefhhpnaaProg
import Derived.Test.YtfplilpefhhpnaaMra
/- Regions that draw their order, whose steps yield the same values in whatever world that is left as it is but for new memory: one walk for all orders, calls that make memory of their own among them. Over any program. -/
namespace Go.Proofs.Ytfplilpefhhpnaa
set_option linter.unusedVariables false
set_option linter.unusedSimpArgs false
open Go.RowKit Go.Shelf

section
variable {P : Program} {ops : Array Oper} {Q : Exit → Act → World → Prop} {ok : World → Prop} {r : Option Nat} {v : Value} {o : Oper}

/-- It yields v in all these worlds, and leaves one of them. -/
def YG (P : Program) (ops : Array Oper) (ok : World → Prop) (o : Oper) (v : Value) (a : Act) : Prop :=
  (Region.wanted o (yielded ops a.tmps) = true ∧ ∀ w, ok w → (execOp a.eval o).run P w = .ok (.value v) w ∨ ∃ f args, (execOp a.eval o).run P w = .ok (.enter f args) w ∧ Calls P f args w (fun e w' => e = .returned v ∧ ok w')) ∨
  (Region.wanted o (yielded ops a.tmps) = false ∧ v = undef)
def stG (P : Program) (ops : Array Oper) (ok : World → Prop) (i : Nat) (K : Act → Prop) (a : Act) : Prop :=
  match ops[i]? with
  | none => K a
  | some o => ∃ v, YG P ops ok o v a ∧ K (a.put o.dst v)
theorem stG_mono {i : Nat} {K K' : Act → Prop} {a : Act} (h : ∀ a, K a → K' a) (hh : stG P ops ok i K a) : stG P ops ok i K' a := by
  unfold stG at *
  split
  · rename_i ho; simp only [ho] at hh; exact h _ hh
  · rename_i o ho; simp only [ho] at hh; obtain ⟨v, h1, h2⟩ := hh; exact ⟨v, h1, h _ h2⟩
theorem YG.same {a a' : Act} (hy : YG P ops ok o v a) (he : execOp a'.eval o = execOp a.eval o) (hw : Region.wanted o (yielded ops a'.tmps) = Region.wanted o (yielded ops a.tmps)) : YG P ops ok o v a' := by
  unfold YG at *
  rw [he, hw]
  exact hy
theorem stG_put {j : Nat} {oi oj : Oper} {a : Act} (hj : ops[j]? = some oj) (hap : oi.apart ops oj = true) (hsi : ∀ cs b, oi.op ≠ .select cs b) (hsj : ∀ cs b, oj.op ≠ .select cs b) {K : Act → Prop}
    (hy : YG P ops ok oi v a) (h : stG P ops ok j K (a.put oi.dst v)) : stG P ops ok j (fun a' => YG P ops ok oi v a' ∧ K (a'.put oi.dst v)) a := by
  obtain ⟨h1, h2, h3⟩ := Oper.apart_spec hap
  unfold stG at *
  simp only [hj] at *
  obtain ⟨u, e1, e2⟩ := h
  exact ⟨u, e1.same (execOp_put oj hsj a oi.dst v h1).symm (wanted_put oj a oi.dst v h1).symm, hy.same (execOp_put oi hsi a oj.dst u h3) (wanted_put oi a oj.dst u h3), by rw [← Act.put_comm a v u h2]; exact e2⟩
theorem wpIn_of_YG {a : Act} {w : World} {K : Act → World → Prop} (hdf : dfB o.op = false) (hw : ok w) (hwt : Region.wanted o (yielded ops a.tmps) = true) (hy : YG P ops ok o v a) (hk : ∀ w', ok w' → K (a.put o.dst v) w') : o.wpIn (Wr r) 3 P a w K Q := by
  rcases hy with ⟨_, hv⟩ | ⟨h, _⟩
  · rcases hv w hw with h1 | ⟨f, args, h1, hc⟩
    · exact wpIn_of_run hdf h1 (hk w hw)
    · exact wpIn_of_run hdf h1 ⟨fun h => (by cases h), callsWr (hc.mono fun e w' ⟨he, hw'⟩ => by subst he; exact hk w' hw')⟩
  · rw [hwt] at h; cases h
theorem wpOpIn_of_stG {i : Nat} {a : Act} {w : World} {K : Act → Prop} {K' : Act → World → Prop} (hdf : ∀ (j : Nat) (o : Oper), ops[j]? = some o → dfB o.op = false) (hw : ok w) (h : ∀ a w, ok w → K a → K' a w) (hh : stG P ops ok i K a) : wpOpIn (Wr r) 3 P ops Q i K' a w := by
  unfold stG at hh
  unfold wpOpIn
  split
  · rename_i ho; simp only [ho] at hh; exact h _ _ hw hh
  · rename_i o ho
    simp only [ho] at hh
    obtain ⟨v, hy, hk⟩ := hh
    split
    · rename_i hwt; exact wpIn_of_YG (hdf _ _ ho) hw hwt hy fun w' hw' => h _ _ hw' hk
    · rename_i hwt
      rcases hy with ⟨h1, _⟩ | ⟨_, rfl⟩
      · exact absurd h1 hwt
      · exact ⟨about_wr a, h _ _ hw hk⟩
/-- All orders, all steps. -/
def AnyG (P : Program) (ops : Array Oper) (ok : World → Prop) (K : Act → Prop) : Nat → Array Bool → Act → Prop
  | 0, listed, a => Region.ready .any ops listed = [] ∧ K a
  | f + 1, listed, a => (Region.ready .any ops listed = [] → K a) ∧ ∀ i ∈ Region.ready .any ops listed, stG P ops ok i (AnyG P ops ok K f (listed.setIfInBounds i true)) a
theorem YG.stG {i : Nat} {a : Act} {K : Act → Prop} (hi : ops[i]? = some o) (hy : YG P ops ok o v a) (h : K (a.put o.dst v)) : stG P ops ok i K a := by
  unfold Proofs.Ytfplilpefhhpnaa.stG
  simp only [hi]
  exact ⟨v, hy, h⟩
theorem AnyG_first {i : Nat} {oi : Oper} {K : Act → Prop} (hi : ops[i]? = some oi) (hsel : ∀ (j : Nat) (o : Oper) cs b, ops[j]? = some o → o.op ≠ .select cs b) :
    ∀ (f : Nat) (listed : Array Bool) (a : Act),
      (∀ j oj, ops[j]? = some oj → j ≠ i → listed.getD j true = false → (∀ e ∈ oj.after, Region.binds .any e = true → e.on ≠ i) → oi.apart ops oj = true) →
      i ∈ Region.ready .any ops listed → YG P ops ok oi v a → AnyG P ops ok K f (listed.setIfInBounds i true) (a.put oi.dst v) → AnyG P ops ok K (f + 1) listed a := by
  intro f
  induction f with
  | zero =>
    intro listed a _ hr hy H
    refine ⟨fun h => (by rw [h] at hr; cases hr), fun j hj => ?_⟩
    by_cases hji : j = i
    · subst hji; exact hy.stG hi H
    · have := ready_mono hj hji
      rw [H.1] at this
      cases this
  | succ f ih =>
    intro listed a hfree hr hy H
    refine ⟨fun h => (by rw [h] at hr; cases hr), fun j hj => ?_⟩
    by_cases hji : j = i
    · subst hji; exact hy.stG hi H
    · have h1 := H.2 j (ready_mono hj hji)
      obtain ⟨hjun, oj, hoj, hall⟩ := mem_ready.1 hj
      have hnot : ∀ e ∈ oj.after, Region.binds .any e = true → e.on ≠ i := fun e he hb heq => by
        have h1 := hall e he hb
        rw [heq, getD_both (mem_ready.1 hr).1] at h1
        cases h1
      have h2 := stG_put hoj (hfree j oj hoj hji hjun hnot) (fun cs b => hsel i oi cs b hi) (fun cs b => hsel j oj cs b hoj) hy h1
      have hfree' : ∀ k ok', ops[k]? = some ok' → k ≠ i → (listed.setIfInBounds j true).getD k true = false →
          (∀ e ∈ ok'.after, Region.binds .any e = true → e.on ≠ i) → oi.apart ops ok' = true := fun k ok' hk hki hun hno => by
        refine hfree k ok' hk hki ?_ hno
        by_cases hjk : j = k
        · subst hjk; exact hjun
        · rw [getD_set_ne true hjk] at hun; exact hun
      refine stG_mono (fun a' h3 => ih (listed.setIfInBounds j true) a' hfree' (ready_mono hr (Ne.symm hji)) h3.1 ?_) h2
      rw [Array.setIfInBounds_comm _ _ hji]
      exact h3.2
/-- One walk, in the order of the text. -/
def walkG (P : Program) (ops : Array Oper) (ok : World → Prop) (K : Act → Prop) : List Oper → Act → Prop
  | [], a => K a
  | o :: l, a => ∃ v, YG P ops ok o v a ∧ walkG P ops ok K l (a.put o.dst v)
theorem AnyG_lex {K : Act → Prop} (hs : Region.noSelect ops = true) : ∀ (l : List Oper) (k : Nat) (listed : Array Bool) (a : Act), (∀ j, l[j]? = ops[k + j]?) →
    Region.lexFrom .any ops l.length k listed = true → walkG P ops ok K l a → AnyG P ops ok K l.length listed a
  | [], _, _, _, _, hB, h => ⟨by simpa [Region.lexFrom] using hB, h⟩
  | o :: l, k, listed, a, hl, hB, h => by
    have h0 : ops[k]? = some o := by simpa using (hl 0).symm
    simp only [List.length_cons, Region.lexFrom, Bool.and_eq_true] at hB
    obtain ⟨⟨hr, hf⟩, hB'⟩ := hB
    obtain ⟨v, hy, hK⟩ := h
    exact AnyG_first h0 (Region.noSelect_spec hs) l.length listed a (Region.free_spec h0 hf) (by simpa using hr) hy
      (AnyG_lex hs l (k + 1) _ _ (fun j => by have := hl (j + 1); simpa [Nat.add_assoc, Nat.add_comm 1 j] using this) hB' hK)
theorem wpAnyIn_of_AnyG {K : Act → Prop} (hdf : ∀ (j : Nat) (o : Oper), ops[j]? = some o → dfB o.op = false) (hQ : ∀ a w, ok w → K a → Q .normal a w) : ∀ (f : Nat) (listed : Array Bool) (a : Act) (w : World),
    ok w → AnyG P ops ok K f listed a → wpAnyIn (Wr r) 3 P .any ops Q f listed a w
  | 0, _, _, _, hw, h => ⟨h.1, hQ _ _ hw h.2⟩
  | f + 1, listed, a, w, hw, h => ⟨fun h0 => hQ _ _ hw (h.1 h0), fun i hi => wpOpIn_of_stG hdf hw (fun a' w' hw' h' => wpAnyIn_of_AnyG hdf hQ f _ a' w' hw' h') (h.2 i hi)⟩
/-- The same with a tail that follows in one order. -/
def HeadG (P : Program) (ops : Array Oper) (ok : World → Prop) (n : Nat) (L : Array Bool → Act → Prop) : Nat → Array Bool → Act → Prop
  | 0, listed, a => L listed a
  | f + 1, listed, a => Region.ready .any ops listed ≠ [] ∧ ∀ i ∈ Region.ready .any ops listed, i < n ∧ stG P ops ok i (HeadG P ops ok n L f (listed.setIfInBounds i true)) a
theorem HeadG_first {n i : Nat} {oi : Oper} {L : Array Bool → Act → Prop} (hi : ops[i]? = some oi) (hsel : ∀ (j : Nat) (o : Oper) cs b, ops[j]? = some o → o.op ≠ .select cs b)
    (hs : Region.sinkB .any ops n = true) (hc : Region.chainB .any ops n = true) (hn : n < ops.size) (hin : i < n)
    (hdone : ∀ listed a, L listed a → ∀ j ∈ Region.ready .any ops listed, n ≤ j) :
    ∀ (f : Nat) (listed : Array Bool) (a : Act), HeadInv .any ops n listed →
      (∀ j oj, ops[j]? = some oj → j ≠ i → listed.getD j true = false → (∀ e ∈ oj.after, Region.binds .any e = true → e.on ≠ i) → oi.apart ops oj = true) →
      i ∈ Region.ready .any ops listed → YG P ops ok oi v a →
      HeadG P ops ok n L f (listed.setIfInBounds i true) (a.put oi.dst v) → HeadG P ops ok n L (f + 1) listed a := by
  intro f
  induction f with
  | zero =>
    intro listed a inv _ hr hy H
    have hun := (mem_ready.1 hr).1
    refine ⟨fun h => (by rw [h] at hr; cases hr), fun j hj => ?_⟩
    have hjn : j < n := by
      rcases Nat.lt_or_ge j n with h | h
      · exact h
      · exact absurd hj (tail_waits hs hc hn inv _ i rfl hin hun j h)
    refine ⟨hjn, ?_⟩
    by_cases hji : j = i
    · subst hji; exact hy.stG hi H
    · have := hdone _ _ H j (ready_mono hj hji)
      omega
  | succ f ih =>
    intro listed a inv hfree hr hy H
    have hun := (mem_ready.1 hr).1
    refine ⟨fun h => (by rw [h] at hr; cases hr), fun j hj => ?_⟩
    have hjn : j < n := by
      rcases Nat.lt_or_ge j n with h | h
      · exact h
      · exact absurd hj (tail_waits hs hc hn inv _ i rfl hin hun j h)
    refine ⟨hjn, ?_⟩
    by_cases hji : j = i
    · subst hji; exact hy.stG hi H
    · have h1 := (H.2 j (ready_mono hj hji)).2
      obtain ⟨hjun, oj, hoj, hall⟩ := mem_ready.1 hj
      have hnot : ∀ e ∈ oj.after, Region.binds .any e = true → e.on ≠ i := fun e he hb heq => by
        have h1 := hall e he hb
        rw [heq, getD_both hun] at h1
        cases h1
      have h2 := stG_put hoj (hfree j oj hoj hji hjun hnot) (fun cs b => hsel i oi cs b hi) (fun cs b => hsel j oj cs b hoj) hy h1
      have hfree' : ∀ k ok', ops[k]? = some ok' → k ≠ i → (listed.setIfInBounds j true).getD k true = false →
          (∀ e ∈ ok'.after, Region.binds .any e = true → e.on ≠ i) → oi.apart ops ok' = true := fun k ok' hk hki hun hno => by
        refine hfree k ok' hk hki ?_ hno
        by_cases hjk : j = k
        · subst hjk; exact hjun
        · rw [getD_set_ne true hjk] at hun; exact hun
      refine stG_mono (fun a' h3 => ih (listed.setIfInBounds j true) a' (inv.set hj hjn) hfree' (ready_mono hr (Ne.symm hji)) h3.1 ?_) h2
      rw [Array.setIfInBounds_comm _ _ hji]
      exact h3.2
theorem HeadG_lex {n g : Nat} {Lq : Act → Prop} (hsel : Region.noSelect ops = true) (hs : Region.sinkB .any ops n = true) (hc : Region.chainB .any ops n = true) (hn : n < ops.size) :
    ∀ (l : List Oper) (k : Nat) (listed : Array Bool) (a : Act), (∀ j, j < l.length → l[j]? = ops[k + j]?) → k + l.length = n → HeadInv .any ops n listed →
    Region.lexHead .any ops g l.length k listed = true → walkG P ops ok Lq l a →
    HeadG P ops ok n (fun listed' a' => Region.seqB .any ops g n listed' = true ∧ Lq a') l.length listed a
  | [], k, listed, a, _, hk, _, hB, h => by
    have : k = n := by simpa using hk
    subst this
    exact ⟨by simpa [Region.lexHead] using hB, h⟩
  | o :: l, k, listed, a, hl, hk, inv, hB, h => by
    have h0 : ops[k]? = some o := by simpa using (hl 0 (by simp)).symm
    simp only [List.length_cons, Region.lexHead, Bool.and_eq_true] at hB
    obtain ⟨⟨hr, hf⟩, hB'⟩ := hB
    have hkn : k < n := by simp only [List.length_cons] at hk; omega
    have hr' : k ∈ Region.ready .any ops listed := by simpa using hr
    obtain ⟨v, hy, hK⟩ := h
    exact HeadG_first h0 (Region.noSelect_spec hsel) hs hc hn hkn (fun listed' a' hL => seqB_ready hL.1) l.length listed a inv (Region.free_spec h0 hf) hr' hy
      (HeadG_lex hsel hs hc hn l (k + 1) _ _ (fun j hj => by have := hl (j + 1) (by simp; omega); simpa [Nat.add_assoc, Nat.add_comm 1 j] using this) (by simp only [List.length_cons] at hk; omega) (inv.set hr' hkn) hB' hK)
theorem wpAnyIn_of_HeadG {n g : Nat} {L : Array Bool → Act → Prop} (hdf : ∀ (j : Nat) (o : Oper), ops[j]? = some o → dfB o.op = false) (hL : ∀ listed a w, ok w → L listed a → wpAnyIn (Wr r) 3 P .any ops Q g listed a w) :
    ∀ (f : Nat) (listed : Array Bool) (a : Act) (w : World), ok w → HeadG P ops ok n L f listed a → wpAnyIn (Wr r) 3 P .any ops Q (f + g) listed a w
  | 0, listed, a, w, hw, h => by rw [Nat.zero_add]; exact hL _ _ _ hw h
  | f + 1, listed, a, w, hw, h => by
    rw [show f + 1 + g = (f + g) + 1 by omega]
    exact ⟨fun h0 => absurd h0 h.1, fun i hi => wpOpIn_of_stG hdf hw (fun a' w' hw' h' => wpAnyIn_of_HeadG hdf hL f _ a' w' hw' h') (h.2 i hi).2⟩

/-! Goals. -/
structure GG (P : Program) (ops : Array Oper) (ok : World → Prop) (K : Act → Prop) (n : Nat) (D : List Deferred) (M : Slots) (l : List Oper) : Prop where
  h : ∀ a, Fr n D M a → walkG P ops ok K l a
variable {n : Nat} {D : List Deferred} {M : Slots} {rest l : List Oper} {K : Act → Prop} {w : World}
theorem GG.val (hr : ∀ w, ok w → Runs P n D M o w (.value v) w) (hd : dstB n o.dst = true) (hg : wantB ops M o.guard = some true) (k : GG P ops ok K n D (putM M o.dst v) rest) : GG P ops ok K n D M (o :: rest) := GG.mk fun a F =>
  ⟨v, .inl ⟨F.want hg, fun w hw => .inl (hr w hw a F)⟩, k.h _ (F.put _ _ hd)⟩
theorem GG.skip (hd : dstB n o.dst = true) (hg : wantB ops M o.guard = some false) (k : GG P ops ok K n D (putM M o.dst undef) rest) : GG P ops ok K n D M (o :: rest) := GG.mk fun a F =>
  ⟨undef, .inr ⟨F.want hg, rfl⟩, k.h _ (F.put _ _ hd)⟩
theorem GG.call {f : FuncId} {args : Array Value} (hr : ∀ w, Runs P n D M o w (.enter f args) w) (hd : dstB n o.dst = true) (hg : wantB ops M o.guard = some true) (hc : ∀ w, ok w → Calls P f args w fun e w' => e = .returned v ∧ ok w') (k : GG P ops ok K n D (putM M o.dst v) rest) : GG P ops ok K n D M (o :: rest) := GG.mk fun a F =>
  ⟨v, .inl ⟨F.want hg, fun w hw => .inr ⟨f, args, hr w a F, hc w hw⟩⟩, k.h _ (F.put _ _ hd)⟩
theorem GG.vsplit {p : Prop} [Decidable p] (ht : p → ∀ w, ok w → Runs P n D M o w (.value (.bool true)) w) (hf : ¬p → ∀ w, ok w → Runs P n D M o w (.value (.bool false)) w) (hd : dstB n o.dst = true) (hg : wantB ops M o.guard = some true)
    (k1 : p → GG P ops ok K n D (putM M o.dst (.bool true)) rest) (k2 : ¬p → GG P ops ok K n D (putM M o.dst (.bool false)) rest) : GG P ops ok K n D M (o :: rest) := by
  by_cases h : p
  · exact GG.val (ht h) hd hg (k1 h)
  · exact GG.val (hf h) hd hg (k2 h)
theorem GG.callDT {f : FuncId} {args : Array Value} {p : Prop} [Decidable p] (hr : ∀ w, Runs P n D M o w (.enter f args) w) (hd : dstB n o.dst = true) (hg : wantB ops M o.guard = some true) (hc : ∀ w, ok w → Calls P f args w fun e w' => e = .returned (.bool (decide p)) ∧ ok w') (h : p) (k : GG P ops ok K n D (putM M o.dst (.bool true)) rest) : GG P ops ok K n D M (o :: rest) := by
  simp only [decide_eq_true h] at hc
  exact GG.call hr hd hg hc k
theorem GG.callDF {f : FuncId} {args : Array Value} {p : Prop} [Decidable p] (hr : ∀ w, Runs P n D M o w (.enter f args) w) (hd : dstB n o.dst = true) (hg : wantB ops M o.guard = some true) (hc : ∀ w, ok w → Calls P f args w fun e w' => e = .returned (.bool (decide p)) ∧ ok w') (h : ¬p) (k : GG P ops ok K n D (putM M o.dst (.bool false)) rest) : GG P ops ok K n D M (o :: rest) := by
  simp only [decide_eq_false h] at hc
  exact GG.call hr hd hg hc k
theorem GG.callD {f : FuncId} {args : Array Value} {p : Prop} [Decidable p] (hr : ∀ w, Runs P n D M o w (.enter f args) w) (hd : dstB n o.dst = true) (hg : wantB ops M o.guard = some true) (hc : ∀ w, ok w → Calls P f args w fun e w' => e = .returned (.bool (decide p)) ∧ ok w') (k1 : p → GG P ops ok K n D (putM M o.dst (.bool true)) rest) (k2 : ¬p → GG P ops ok K n D (putM M o.dst (.bool false)) rest) : GG P ops ok K n D M (o :: rest) := by
  by_cases h : p
  · exact GG.callDT hr hd hg hc h (k1 h)
  · exact GG.callDF hr hd hg hc h (k2 h)
theorem GG.nil (k : ∀ w, ok w → LL r P ops Q n D M l w) : GG P ops ok (fun a => ∀ w, ok w → wpListIn (Wr r) 3 P ops Q l a w) n D M [] := GG.mk fun a F w hw => (k w hw).h a F
theorem GG.nilQ (k : ∀ w, ok w → EE Q n D M .normal w) : GG P ops ok (fun a => ∀ w, ok w → Q .normal a w) n D M [] := GG.mk fun a F w hw => (k w hw).h a F
theorem GG.keep (L : List (Nat × Value)) (hL : Fits M L) (h : GG P ops ok K n D (sl L) rest) : GG P ops ok K n D M rest := GG.mk fun a F => h.h a (F.keep L hL)
/-- Where all yield the same, whatever new memory there is. -/
theorem CC.grow {id : Nat} (hm : P.follows .mixedOrders = true) (hB : (Region.lexB .any l.toArray && l.all fun o => !dfB o.op) = true)
    (h : GG P l.toArray (fun W => Below w.heap.size w W) (fun a => ∀ W, Below w.heap.size w W → Q .normal a W) n D M l) : CC r P Q n D M (.region id l.toArray true) w := CC.mk fun a F => by
  rw [Bool.and_eq_true] at hB
  obtain ⟨hB, hdf0⟩ := hB
  have hdf : ∀ (j : Nat) o, l.toArray[j]? = some o → dfB o.op = false := fun j o ho => by
    have := List.all_eq_true.1 hdf0 o (by simpa using List.mem_of_getElem? (by simpa using ho))
    simpa using this
  simp only [Region.lexB, Bool.and_eq_true] at hB
  refine wpIn_region_any hm (wpAnyIn_of_AnyG (ok := fun W => Below w.heap.size w W) (K := fun a' => ∀ W, Below w.heap.size w W → Q .normal a' W) hdf (fun _ _ hw h => h _ hw) _ _ _ _ below_drew ?_)
  have := AnyG_lex (P := P) hB.1 l 0 (Array.replicate l.toArray.size false) a (by simp) (by simpa using hB.2) (h.h a F)
  simpa using this
theorem CC.growT {id : Nat} (m : Nat) (hm : P.follows .mixedOrders = true) (hB : (Region.lexTailB .any l.toArray m && l.all fun o => !dfB o.op) = true)
    (h : GG P l.toArray (fun W => Below w.heap.size w W) (fun a => ∀ W, Below w.heap.size w W → wpListIn (Wr r) 3 P l.toArray Q (l.drop m) a W) n D M (l.take m)) : CC r P Q n D M (.region id l.toArray true) w := CC.mk fun a F => by
  rw [Bool.and_eq_true] at hB
  obtain ⟨hB, hdf0⟩ := hB
  have hdf : ∀ (j : Nat) o, l.toArray[j]? = some o → dfB o.op = false := fun j o ho => by
    have := List.all_eq_true.1 hdf0 o (by simpa using List.mem_of_getElem? (by simpa using ho))
    simpa using this
  have h := h.h a F
  simp only [Region.lexTailB, Bool.and_eq_true, decide_eq_true_eq] at hB
  obtain ⟨⟨⟨⟨hsel, hn⟩, hs⟩, hc⟩, hlex⟩ := hB
  have hn' : m < l.length := by simpa using hn
  have htl : (l.take m).length = m := by simp; omega
  have hdl : (l.drop m).length = l.toArray.size - m := by simp
  have inv0 : HeadInv .any l.toArray m (Array.replicate l.toArray.size false) :=
    ⟨by simp, fun j oj _ hl => (by rw [getD_replicate_false] at hl; cases hl), fun t _ ht => getD_in (by simpa using ht) (getD_replicate_false _ _)⟩
  have H := HeadG_lex (P := P) (g := l.toArray.size - m) hsel hs hc hn (l.take m) 0 _ a (fun j hj => by
    have hj' : j < m := by rw [htl] at hj; exact hj
    simp [hj']) (by simpa using htl) inv0 (by rw [htl]; exact hlex) h
  refine wpIn_region_any hm ?_
  have := wpAnyIn_of_HeadG (ok := fun W => Below w.heap.size w W) (r := r) (Q := Q) (g := l.toArray.size - m) hdf (fun listed a' w' hw' hL => by
    have := wpAnyIn_of_seq (r := r) (md := .any) (Q := Q) (l.drop m) m listed a' w' (fun j => by simp [List.getElem?_drop]) (by rw [hdl]; exact hL.1) (hL.2 w' hw')
    rwa [hdl] at this) _ _ _ w.drew below_drew H
  rw [htl, show m + (l.toArray.size - m) = l.toArray.size by omega] at this
  exact this
end
end Go.Proofs.Ytfplilpefhhpnaa
/- What the tool that writes walks takes in regions that draw their order and make memory: steps in any order. Over any program. -/
namespace Go.Proofs.Ytfplilpefhhpnaa
set_option linter.unusedVariables false
set_option linter.unusedSimpArgs false
open Go.RowKit Go.Shelf
section
variable {P : Program} {ops : Array Oper} {l : List Oper} {w w' : World} {o : Oper} {n i f : Nat} {D : List Deferred} {M : Slots} {v : Value} {r : Option Nat} {Q : Exit → Act → World → Prop} {ok : World → Prop} {listed : Array Bool} {t : TypeId} {x y : Operand} {K : Slots → World → Prop}
theorem CC.freeZ {id : Nat} (K : World → Nat → Prop) (hm : P.follows .mixedOrders = true) (hB : selB l = true)
    (h : ∀ w1, Below w.heap.size w w1 → w1.heap.size = w.heap.size → AA P l.toArray (fun W => Kept (K w1) w1 W) Q n D M l.length (Array.replicate l.length false) w1) : CC r P Q n D M (.region id l.toArray true) w :=
  CC.free _ hm hB (h _ below_drew rfl)
theorem fzRow {K : Nat → Prop} {g e : Nat} {xs : List Value} (h : RowL w g e xs) (hg : K g) : ∀ w', Kept K w w' → RowL w' g e xs := fun _ hk => h.kept hk hg
theorem fzCell {K : Nat → Prop} {b a : Nat} {v : Value} (h : w.cell? ⟨b, a, none⟩ = some v) (hb : K b) : ∀ w', Kept K w w' → w'.cell? ⟨b, a, none⟩ = some v := fun _ hk => (World.cell?_of_block (hk.block b hb)).trans h
theorem AA.vsplit {p : Prop} [Decidable p] (i : Nat) (hi : ops[i]? = some o) (hw : ok w) (hB : rfB ops listed i = true) (ht : ∀ w', ok w' → p → Runs P n D M o w' (.value (.bool true)) w') (hf : ∀ w', ok w' → ¬p → Runs P n D M o w' (.value (.bool false)) w') (hd : dstB n o.dst = true) (hg : wantB ops M o.guard = some true)
    (k1 : p → AA P ops ok Q n D (putM M o.dst (.bool true)) f (listed.setIfInBounds i true) w) (k2 : ¬p → AA P ops ok Q n D (putM M o.dst (.bool false)) f (listed.setIfInBounds i true) w) : AA P ops ok Q n D M (f + 1) listed w := by
  by_cases h : p
  · exact AA.pure i hi hw hB (fun w' b => ht w' b h) hd hg (k1 h)
  · exact AA.pure i hi hw hB (fun w' b => hf w' b h) hd hg (k2 h)
theorem ZR.callBT {p : Prop} [Decidable p] {g : FuncId} {args : Array Value} (hi : ops[i]? = some o) (hr : Runs P n D M o w (.enter g args) w) (hd : dstB n o.dst = true) (hg : wantB ops M o.guard = some true) (hc : Calls P g args w fun e w' => e = .returned (.bool (decide p)) ∧ Below w.heap.size w w') (h : p) (k : ∀ w', Below w.heap.size w w' → ok w' ∧ K (putM M o.dst (.bool true)) w') : SR P ops ok i K n D M w :=
  SR.call hi hr hd hg hc fun _ w' ⟨he, hw⟩ => ⟨_, by rw [he, decide_eq_true h], (k w' hw).1, (k w' hw).2⟩
theorem ZR.callBF {p : Prop} [Decidable p] {g : FuncId} {args : Array Value} (hi : ops[i]? = some o) (hr : Runs P n D M o w (.enter g args) w) (hd : dstB n o.dst = true) (hg : wantB ops M o.guard = some true) (hc : Calls P g args w fun e w' => e = .returned (.bool (decide p)) ∧ Below w.heap.size w w') (h : ¬p) (k : ∀ w', Below w.heap.size w w' → ok w' ∧ K (putM M o.dst (.bool false)) w') : SR P ops ok i K n D M w :=
  SR.call hi hr hd hg hc fun _ w' ⟨he, hw⟩ => ⟨_, by rw [he, decide_eq_false h], (k w' hw).1, (k w' hw).2⟩
theorem ZR.alloc (cs : List Value) (hi : ops[i]? = some o) (ho : o.op = .alloc t) (hz : zeroB P t = some v) (hcs : v.cells = cs.toArray) (hd : dstB n o.dst = true) (hg : wantB ops M o.guard = some true)
    (c : ∀ w1 g, g = w.heap.size → RowL w1 g t cs → w1.heap.size = g + 1 → Below w.heap.size w w1 → ok w1 ∧ K (putM M o.dst (.pointer (some ⟨g, 0, none⟩))) w1) : SR P ops ok i K n D M w :=
  have h := c _ _ rfl (RowL.new w t cs) (by simp) (Below.alloc0 w _)
  SR.val hi (R.alloc ho (run_alloc hz hcs)) hd hg h.1 h.2
theorem ZR.box (cs : List Value) (hi : ops[i]? = some o) (ho : o.op = .box t x) (hx : evM M x = some v) (hcs : v.cells = cs.toArray) (hd : dstB n o.dst = true) (hg : wantB ops M o.guard = some true)
    (c : ∀ w1 g, g = w.heap.size → RowL w1 g t cs → w1.heap.size = g + 1 → Below w.heap.size w w1 → ok w1 ∧ K (putM M o.dst (.pointer (some ⟨g, 0, none⟩))) w1) : SR P ops ok i K n D M w :=
  have h := c _ _ rfl (RowL.new w t cs) (by simp) (Below.alloc0 w _)
  SR.val hi (R.box ho hx (run_box hcs)) hd hg h.1 h.2
theorem ZR.lit {e k : Nat} {ps : Array (Nat × Operand)} {vs : List (Nat × Value)} (cs : List Value) (len : Nat) (hi : ops[i]? = some o) (ho : o.op = .buildSlice t k ps) (hx : evpM M ps.toList = some vs) (hr : ∀ w, (Instr.buildSlice t k vs.toArray).run P w = .ok (.slice (some ⟨w.heap.size, 0, none⟩) len len) (w.alloc (.cells cs.toArray e))) (hd : dstB n o.dst = true) (hg : wantB ops M o.guard = some true)
    (c : ∀ w1 g, g = w.heap.size → RowL w1 g e cs → w1.heap.size = g + 1 → Below w.heap.size w w1 → ok w1 ∧ K (putM M o.dst (.slice (some ⟨g, 0, none⟩) len len)) w1) : SR P ops ok i K n D M w :=
  have h := c _ _ rfl (RowL.new w e cs) (by simp) (Below.alloc0 w _)
  SR.val hi (R.buildSlice ho hx (hr w)) hd hg h.1 h.2
theorem ZR.store {g off e : Nat} {xs : List Value} (hi : ops[i]? = some o) (ho : o.op = .store t x y) (hx : evM M x = some (.pointer (some ⟨g, off, none⟩))) (hy : evM M y = some v) (hz : szB P t = some 1) (hr : RowL w g e xs) (hl : off < xs.length) (h1 : v.oneCell' = true) (hcs : v.cells = #[v]) (hd : o.dst = none) (hg : wantB ops M o.guard = some true)
    (c : ∀ w1, RowL w1 g e (xs.set off v) → w.grownBy w1 (some g) → w1.heap.size = w.heap.size → ok w1 ∧ K M w1) : SR P ops ok i K n D M w := SR.mk fun K' hK a F => by
  have h := c _ (hr.set off v) (grown_set w _ v) (by simp [World.setCell])
  unfold stepR
  simp only [hi]
  rw [if_pos (F.want hg)]
  refine .inr (.inl ⟨_, R.store ho hx hy (I.st1R hz hr hl h1 hcs) a F, h.1, ?_⟩)
  rw [hd]
  exact hK _ _ h.2 _ F
theorem ZR.storeN {vs : List Value} {g off e : Nat} {xs : List Value} (hi : ops[i]? = some o) (ho : o.op = .store t x y) (hx : evM M x = some (.pointer (some ⟨g, off, none⟩))) (hy : evM M y = some (.agg vs.toArray)) (hz : szB P t = some vs.length) (hr : RowL w g e xs) (hl : off + vs.length ≤ xs.length) (h1 : ∀ u ∈ vs, u.oneCell' = true) (hd : o.dst = none) (hg : wantB ops M o.guard = some true)
    (c : ∀ w1, RowL w1 g e (xs.take off ++ vs ++ xs.drop (off + vs.length)) → w.grownBy w1 (some g) → w1.heap.size = w.heap.size → ok w1 ∧ K M w1) : SR P ops ok i K n D M w := SR.mk fun K' hK a F => by
  obtain ⟨w', hrun, hrow, hgr, hsz⟩ := I.stN (t := t) hz hr hl h1
  have h := c w' hrow hgr hsz
  unfold stepR
  simp only [hi]
  rw [if_pos (F.want hg)]
  refine .inr (.inl ⟨_, R.store ho hx hy hrun a F, h.1, ?_⟩)
  rw [hd]
  exact hK _ _ h.2 _ F
theorem EE.weak {e : Exit} {L : List (Nat × Value)} (h : EE Q n D (sl L) e w) (hL : Fits M L) : EE Q n D M e w := EE.mk fun a F => h.h a (F.keep L hL)
/-- Orders that meet behind the region: what is known there. -/
theorem CC.join {c : Code} (F : List (Nat × Value) → World → Prop) (h : (∀ l w', F l w' → EE Q n D (sl l) .normal w') → CC r P Q n D M c w) (rest : ∀ l w', F l w' → EE Q n D (sl l) .normal w') : CC r P Q n D M c w := h rest
/-- A write into another block. -/
theorem Reads.gr {g b off len cap : Nat} {xs : List Value} (h : Reads w (.slice (some ⟨b, off, none⟩) len cap) xs) (hg : w.grownBy w' (some g)) (hne : b ≠ g) : Reads w' (.slice (some ⟨b, off, none⟩) len cap) xs := by
  obtain ⟨a, c, e, hc, hr⟩ := h
  refine ⟨a, c, e, hc, fun hx => ?_⟩
  obtain ⟨b', off', ea, hb, hcell⟩ := hr hx
  simp only [Value.slice.injEq] at e
  rw [← e.1] at ea
  simp only [Option.some.injEq, Addr.mk.injEq] at ea
  obtain ⟨rfl, rfl, _⟩ := ea
  refine ⟨b, off, by rw [← e.1], Nat.lt_of_lt_of_le hb hg.size, fun j hj => ?_⟩
  rw [← hcell j hj]
  exact World.cell?_of_block (hg.block b hb (by simpa using hne))
end
end Go.Proofs.Ytfplilpefhhpnaa
/- One element is appended to a slice that is full: a new row. Over any program. -/
namespace Go.Proofs.Ytfplilpefhhpnaa
set_option linter.unusedVariables false
set_option linter.unusedSimpArgs false
open Go.RowKit

end Go.Proofs.Ytfplilpefhhpnaa
/- Parts of slices. Over any program. -/
namespace Go.Proofs.Ytfplilpefhhpnaa
set_option linter.unusedVariables false
set_option linter.unusedSimpArgs false
open Go.RowKit Go.Shelf
section
variable {P : Program} {w : World} {T : TypeId} {e k : Nat}
theorem I.slS {b off len cap lo hi : Nat} (h : slB P T = some (e, k)) (h1 : lo ≤ hi) (h2 : hi ≤ cap) (h3 : lo < cap) : (Instr.sliceAt T (.slice (some ⟨b, off, none⟩) len cap) (some (.int .i64 (lo : Int))) (some (.int .i64 (hi : Int))) none).run P w = .ok (.slice (some ⟨b, off + lo * k, none⟩) (hi - lo) (cap - lo)) w := by
  refine slAt_sl h ?_
  obtain ⟨hu, hs⟩ := sl_of h
  obtain ⟨i, hi', hsz⟩ : ∃ i, P.info? e = some i ∧ i.size = k := by
    unfold szB at hs
    cases hq : P.info? e with
    | none => rw [hq] at hs; cases hs
    | some i => rw [hq] at hs; exact ⟨i, rfl, by simpa using hs⟩
  have hne : ¬ cap = lo := by omega
  simp [Instr.slice, run_underlying hu, Instr.sliceBounds, run_sliceBound, sizeOf, typeInfo, hi', hsz, (by omega : (lo : Int) ≤ (hi : Int)), (by omega : (hi : Int) ≤ (cap : Int)), hne, Addr.add]
theorem I.slFrom {b off len cap lo : Nat} (h : slB P T = some (e, k)) (h1 : lo ≤ len) (h2 : len ≤ cap) (h3 : lo < cap) : (Instr.sliceAt T (.slice (some ⟨b, off, none⟩) len cap) (some (.int .i64 (lo : Int))) none none).run P w = .ok (.slice (some ⟨b, off + lo * k, none⟩) (len - lo) (cap - lo)) w := by
  refine slAt_sl h ?_
  obtain ⟨hu, hs⟩ := sl_of h
  obtain ⟨i, hi', hsz⟩ : ∃ i, P.info? e = some i ∧ i.size = k := by
    unfold szB at hs
    cases hq : P.info? e with
    | none => rw [hq] at hs; cases hs
    | some i => rw [hq] at hs; exact ⟨i, rfl, by simpa using hs⟩
  have hne : ¬ cap = lo := by omega
  simp [Instr.slice, run_underlying hu, Instr.sliceBounds, run_sliceBound, sizeOf, typeInfo, hi', hsz, (by omega : (lo : Int) ≤ (len : Int)), hne, Addr.add]
theorem I.slTo {a : Option Addr} {len cap hi : Nat} (h : slB P T = some (e, k)) (h2 : hi ≤ cap) : (Instr.sliceAt T (.slice a len cap) none (some (.int .i64 (hi : Int))) none).run P w = .ok (.slice a hi cap) w := by
  refine slAt_sl h ?_
  obtain ⟨hu, hs⟩ := sl_of h
  obtain ⟨i, hi', hsz⟩ : ∃ i, P.info? e = some i ∧ i.size = k := by
    unfold szB at hs
    cases hq : P.info? e with
    | none => rw [hq] at hs; cases hs
    | some i => rw [hq] at hs; exact ⟨i, rfl, by simpa using hs⟩
  simp [Instr.slice, run_underlying hu, Instr.sliceBounds, run_sliceBound, sizeOf, typeInfo, hi', hsz, (by omega : (hi : Int) ≤ (cap : Int))]
  cases a <;> simp [Addr.add]
theorem I.slSc {b off len cap lo hi : Nat} (hlit : Nat.ble lo 18446744073709551616 = true) (hlit2 : Nat.ble hi 18446744073709551616 = true) (h : slB P T = some (e, k)) (h1 : (@OfNat.ofNat Nat lo (instOfNatNat lo)) ≤ @OfNat.ofNat Nat hi (instOfNatNat hi)) (h2 : (@OfNat.ofNat Nat hi (instOfNatNat hi)) ≤ cap) (h3 : (@OfNat.ofNat Nat lo (instOfNatNat lo)) < cap) : (Instr.sliceAt T (.slice (some ⟨b, off, none⟩) len cap) (some (.int .i64 (@OfNat.ofNat Int lo instOfNat))) (some (.int .i64 (@OfNat.ofNat Int hi instOfNat))) none).run P w = .ok (.slice (some ⟨b, off + (@OfNat.ofNat Nat lo (instOfNatNat lo)) * k, none⟩) ((@OfNat.ofNat Nat hi (instOfNatNat hi)) - (@OfNat.ofNat Nat lo (instOfNatNat lo))) (cap - (@OfNat.ofNat Nat lo (instOfNatNat lo)))) w := I.slS h h1 h2 h3
theorem cell_up {w' : World} {b o : Nat} {v : Value} (h : w.cell? ⟨b, o, none⟩ = some v) (hb : Below w.heap.size w w') : w'.cell? ⟨b, o, none⟩ = some v :=
  (World.cell?_of_block (hb.block b (World.block_lt_of_cell? w _ h))).trans h
theorem cell_gr {w' : World} {b o : Nat} {r : Nat} {v : Value} (h : w.cell? ⟨b, o, none⟩ = some v) (hg : w.grownBy w' (some r)) (hne : b ≠ r) : w'.cell? ⟨b, o, none⟩ = some v :=
  hg.cell h (by simpa using hne)
theorem cell_kept {K : Nat → Prop} {w' : World} {b o : Nat} {v : Value} (h : w.cell? ⟨b, o, none⟩ = some v) (hk : Kept K w w') (hb : K b) : w'.cell? ⟨b, o, none⟩ = some v := (World.cell?_of_block (hk.block b hb)).trans h
/-- A part of what a slice reads as. -/
theorem Reads.part {b off len cap lo hi : Nat} {xs : List Value} (h : Reads w (.slice (some ⟨b, off, none⟩) len cap) xs) (h1 : lo ≤ hi) (h2 : hi ≤ len) (h3 : hi - lo ≤ cap - lo) : Reads w (.slice (some ⟨b, off + lo * 1, none⟩) (hi - lo) (cap - lo)) ((xs.drop lo).take (hi - lo)) := by
  obtain ⟨a, c, e, hc, hr⟩ := h
  simp only [Value.slice.injEq] at e
  obtain ⟨rfl, rfl, rfl⟩ := e
  have hl : ((xs.drop lo).take (hi - lo)).length = hi - lo := by simp; omega
  refine ⟨_, _, by rw [hl], by rw [hl]; exact h3, fun hne => ?_⟩
  have hx : xs ≠ [] := by rintro rfl; simp at hne
  obtain ⟨b', off', ea, hb, hcell⟩ := hr hx
  simp only [Option.some.injEq, Addr.mk.injEq] at ea
  obtain ⟨rfl, rfl, _⟩ := ea
  refine ⟨b, off + lo * 1, rfl, hb, fun j hj => ?_⟩
  rw [hl] at hj
  have := hcell (lo + j) (by omega)
  rw [Nat.mul_one, Nat.add_assoc, this, List.getElem?_take, if_pos hj, List.getElem?_drop]
theorem SR.storeN {ops : Array Oper} {ok : World → Prop} {i : Nat} {K : Slots → World → Prop} {n : Nat} {D : List Deferred} {M : Slots} {o : Oper} {x y : Operand} {t : TypeId} {g off e : Nat} {xs vs : List Value} (hi : ops[i]? = some o) (ho : o.op = .store t x y) (hx : evM M x = some (.pointer (some ⟨g, off, none⟩))) (hy : evM M y = some (.agg vs.toArray)) (hz : szB P t = some vs.length) (hr : RowL w g e xs) (hl : off + vs.length ≤ xs.length) (h1 : ∀ u ∈ vs, u.oneCell' = true) (hd : o.dst = none) (hg : wantB ops M o.guard = some true)
    (c : ∀ w1, RowL w1 g e (xs.take off ++ vs ++ xs.drop (off + vs.length)) → w.grownBy w1 (some g) → w1.heap.size = w.heap.size → ok w1 ∧ K M w1) : SR P ops ok i K n D M w := SR.mk fun K' hK a F => by
  obtain ⟨w', hrun, hrow, hgr, hsz⟩ := I.stN hz hr hl h1
  have h := c w' hrow hgr hsz
  unfold stepR
  simp only [hi]
  rw [if_pos (F.want hg)]
  refine .inr (.inl ⟨_, R.store ho hx hy hrun a F, h.1, ?_⟩)
  rw [hd]
  exact hK _ _ h.2 _ F
end
end Go.Proofs.Ytfplilpefhhpnaa
/- Slices of tuples for the tool that writes walks: facts that are carried; two slices of one's own, one beside the other. Over any program. -/
namespace Go.Proofs.Ytfplilpefhhpnaa
set_option linter.unusedVariables false
set_option linter.unusedSimpArgs false
open Go.RowKit Go.Shelf
section
variable {α β : Type} {enc : α → List Value} {k e : Nat} {w w' : World} {v : Value} {ts : List α}
theorem Cells.up {b o : Nat} {vs : List Value} (h : Cells w ⟨b, o, none⟩ vs) (hb : Below w.heap.size w w') : Cells w' ⟨b, o, none⟩ vs := fun j u hu => by
  have h1 := h j u hu
  rw [Addr.add_lit] at h1 ⊢
  exact (World.cell?_of_block (hb.block b (World.block_lt_of_cell? w _ h1))).trans h1
theorem Cells.gr {b o g : Nat} {vs : List Value} (h : Cells w ⟨b, o, none⟩ vs) (hg : w.grownBy w' (some g)) (hne : b ≠ g) : Cells w' ⟨b, o, none⟩ vs := fun j u hu => by
  have h1 := h j u hu
  rw [Addr.add_lit] at h1 ⊢
  exact (World.cell?_of_block (hg.block b (World.block_lt_of_cell? w _ h1) (by simpa using hne))).trans h1
theorem Below.of_none (h : w.grownBy w' none) : Below w.heap.size w w' := (Below.refl _ _).grown h (Nat.le_refl _) fun j ej => by cases ej
theorem Kept.onB {w0 : World} {n : Nat} {K : Nat → Prop} (k : Kept K w w') (h : Below n w0 w) (hK : ∀ j, j < n → K j) : Below n w0 w' :=
  ⟨k.os.trans h.os, k.tape.trans h.tape, k.output.trans h.output, Nat.le_trans h.size k.size, fun j hj => (k.block j (hK j hj)).trans (h.block j hj)⟩
/-- What an append to another slice leaves. -/
theorem OwnsT.apart {r : Option Nat} {base : Nat} (h : OwnsT enc k w base e v ts) (hg : w.grownBy w' r) (hne : v.ownBlock = Option.none ∨ v.ownBlock ≠ r) : OwnsT enc k w' base e v ts := by
  cases r with
  | none => exact h.up (Below.of_none hg)
  | some g =>
    rcases hne with hne | hne
    · exact h.grown hg (by rw [hne]; simp)
    · exact h.grown hg hne
theorem RowL.grO {r : Option Nat} {g : Nat} {xs : List Value} (h : RowL w g e xs) (hg : w.grownBy w' r) (hr : r ≠ some g) : RowL w' g e xs := by
  cases r with
  | none => exact h.up (Below.of_none hg)
  | some b => exact h.gr hg (fun e => hr (by rw [e]))
theorem ReadsT.gr {g b off n cap : Nat} (h : ReadsT enc k w (.slice (some ⟨b, off, none⟩) n cap) ts) (hg : w.grownBy w' (some g)) (hne : b ≠ g) : ReadsT enc k w' (.slice (some ⟨b, off, none⟩) n cap) ts := h.grown hg fun x n' c' e _ => by
  simp only [Value.slice.injEq, Option.some.injEq] at e
  rw [← e.1]
  exact hne
theorem OwnsT.apart2 {r : Option Nat} {base : Nat} (h : OwnsT enc k w base e v ts) (hg : w.grownBy w' r) (hne : r = Option.none ∨ r ≠ v.ownBlock) : OwnsT enc k w' base e v ts := by
  rcases hne with rfl | hne
  · exact h.up (Below.of_none hg)
  · exact h.apart hg (.inr (Ne.symm hne))
theorem own_lt {base : Nat} (h : OwnsT enc k w base e v ts) : v.ownBlock = Option.none ∨ ∃ b, v.ownBlock = some b ∧ b < w.heap.size := by
  rcases h.above with h | ⟨b, h, _, hl⟩
  · exact .inl h
  · exact .inr ⟨b, h, hl⟩
theorem own_ge {base : Nat} (h : OwnsT enc k w base e v ts) : ∀ g, v.ownBlock = some g → base ≤ g := by
  intro g hg
  rcases h.above with h | ⟨b, h, hb, _⟩
  · rw [h] at hg; cases hg
  · rw [h] at hg; cases hg; exact hb
theorem own_ne {base g : Nat} (h : OwnsT enc k w base e v ts) (hg : g < base) : v.ownBlock ≠ some g := fun e => by
  have := own_ge h g e
  omega
end
section
variable {P : Program} {w : World} {T TI e : TypeId} {z : Value} {bytes : Nat} {kn : IntKind} {o : Oper} {n i : Nat} {D : List Deferred} {M : Slots} {ops : Array Oper} {ok : World → Prop} {K : Slots → World → Prop}
theorem ZR.append {xs : Array Operand} {v vx : Value} {base m : Nat} {us ys : List Value} (hi : ops[i]? = some o) (ho : o.op = .call { callee := .builtin .append, args := xs, argTypes := #[T, T] }) (hx : evsM M xs.toList = some [v, vx]) (I : El P T e z bytes) (hown : w.ownsRow base e 1 v m us) (hr : Reads w vx ys) (hone : ∀ u ∈ ys, u.oneCell' = true)
    (h63 : m + ys.length ≤ maxLen) (hb : (m + ys.length) * bytes ≤ 140737488355328) (hbase : base ≤ w.heap.size) (hd : dstB n o.dst = true) (hg : wantB ops M o.guard = some true)
    (k : ∀ v' w', w'.ownsRow base e 1 v' (m + ys.length) (us ++ ys) → w.grownBy w' v.ownBlock → ok w' ∧ K (putM M o.dst v') w') : SR P ops ok i K n D M w := by
  obtain ⟨v', w', h1, h2, h3⟩ := run_append_all I o.type hown hr hone h63 hb hbase
  have h := k v' w' h2 h3
  refine SR.val (v := v') hi (R.builtin ho hx fun b => ?_) hd hg h.1 h.2
  unfold builtin
  simp only [Sem.run_bind, h1, Result.andThen_ok, Sem.run_pure]
end
end Go.Proofs.Ytfplilpefhhpnaa
/- Slices of one's own that grow in the rounds of a range over a function; facts that such a range leaves. Over any program. -/
namespace Go.Proofs.Ytfplilpefhhpnaa
set_option linter.unusedVariables false
set_option linter.unusedSimpArgs false
open Go.RowKit Go.Shelf
section
variable {α : Type} {enc : α → List Value} {k e B : Nat} {m : Nat → Prop} {w w' : World} {v : Value} {ts : List α}
theorem OwnsT.same {base : Nat} (h : OwnsT enc k w base e v ts) (hz : w.heap.size ≤ w'.heap.size) (hs : ∀ (g : Nat) (cs : Array Value), v.ownBlock = some g → w.heap[g]? = some (.cells cs e) → w'.heap[g]? = some (.cells cs e)) : OwnsT enc k w' base e v ts := by
  rcases id h.2 with ⟨e1, e2⟩ | ⟨g, cap, cur, rfl, hbg, hg, r⟩
  · exact ⟨h.1, .inl ⟨e1, e2⟩⟩
  · exact ⟨h.1, .inr ⟨g, cap, cur, rfl, hbg, hs g cur rfl hg, r⟩⟩
theorem OwnsT.turn {base : Nat} (h : OwnsT enc k w base e v ts) (ht : TurnsZ B m w w') (hm : ∀ g, v.ownBlock = some g → ¬ m g) : OwnsT enc k w' base e v ts :=
  h.same ht.size fun g cs hg hx => ht.same g _ hx (.inr ⟨hm g hg, rfl⟩)
theorem TurnsZ.cell {b o : Nat} {u : Value} (ht : TurnsZ B m w w') (h : w.cell? ⟨b, o, none⟩ = some u) (hb : b < B) : w'.cell? ⟨b, o, none⟩ = some u := by
  have hlt := World.block_lt_of_cell? _ _ h
  have hx := Array.getElem?_eq_getElem hlt
  exact (World.cell?_of_block ((ht.same b _ hx (.inl hb)).trans hx.symm)).trans h
theorem Reads.sameB {b off len cap : Nat} {xs : List Value} (h : Reads w (.slice (some ⟨b, off, none⟩) len cap) xs) (hz : w.heap.size ≤ w'.heap.size) (hs : ∀ o, w.heap[b]? = some o → w'.heap[b]? = some o) : Reads w' (.slice (some ⟨b, off, none⟩) len cap) xs := by
  obtain ⟨a, c, e, hc, hr⟩ := h
  refine ⟨a, c, e, hc, fun hx => ?_⟩
  obtain ⟨b', off', ea, hb, hcell⟩ := hr hx
  simp only [Value.slice.injEq] at e
  rw [← e.1] at ea
  simp only [Option.some.injEq, Addr.mk.injEq] at ea
  obtain ⟨rfl, rfl, _⟩ := ea
  refine ⟨b, off, by rw [← e.1], Nat.lt_of_lt_of_le hb hz, fun j hj => ?_⟩
  rw [← hcell j hj]
  have hx := Array.getElem?_eq_getElem hb
  exact World.cell?_of_block ((hs _ hx).trans hx.symm)
theorem Reads.turn {b off len cap : Nat} {xs : List Value} (h : Reads w (.slice (some ⟨b, off, none⟩) len cap) xs) (ht : TurnsZ B m w w') (hb : b < B) : Reads w' (.slice (some ⟨b, off, none⟩) len cap) xs :=
  h.sameB ht.size fun o ho => ht.same b o ho (.inl hb)
theorem Reads.grO {b off len cap : Nat} {r : Option Nat} {xs : List Value} (h : Reads w (.slice (some ⟨b, off, none⟩) len cap) xs) (hg : w.grownBy w' r) (hr : r ≠ some b) : Reads w' (.slice (some ⟨b, off, none⟩) len cap) xs := by
  cases r with
  | none => exact h.up (Below.of_none hg)
  | some g => exact h.gr hg (fun e => hr (by rw [e]))
theorem ReadsT.sameB {b off len cap : Nat} (h : ReadsT enc k w (.slice (some ⟨b, off, none⟩) len cap) ts) (hz : w.heap.size ≤ w'.heap.size) (hs : ∀ o, w.heap[b]? = some o → w'.heap[b]? = some o) : ReadsT enc k w' (.slice (some ⟨b, off, none⟩) len cap) ts := by
  obtain ⟨a, c, e, hc, hr⟩ := h
  refine ⟨a, c, e, hc, fun hx => ?_⟩
  obtain ⟨b', off', ea, hb, hcell⟩ := hr hx
  simp only [Value.slice.injEq] at e
  rw [← e.1] at ea
  simp only [Option.some.injEq, Addr.mk.injEq] at ea
  obtain ⟨rfl, rfl, _⟩ := ea
  refine ⟨b, off, by rw [← e.1], Nat.lt_of_lt_of_le hb hz, ?_⟩
  have hx := Array.getElem?_eq_getElem hb
  have hbk := (hs _ hx).trans hx.symm
  intro j hj
  rw [← hcell j hj]
  exact World.cell?_of_block hbk
theorem reads_cell {b off len cap j : Nat} {xs : List Value} {u : Value} (h : Reads w (.slice (some ⟨b, off, none⟩) len cap) xs) (hu : xs[j]? = some u) : w.cell? ⟨b, off + j, none⟩ = some u := by
  obtain ⟨a, c, e, hc, hr⟩ := h
  have hj := (List.getElem?_eq_some_iff.1 hu).1
  obtain ⟨b', off', ea, hb, hcell⟩ := hr (by intro h0; rw [h0] at hj; exact Nat.not_lt_zero _ hj)
  simp only [Value.slice.injEq] at e
  rw [← e.1] at ea
  simp only [Option.some.injEq, Addr.mk.injEq] at ea
  obtain ⟨rfl, rfl, _⟩ := ea
  rw [hcell j hj]
  exact hu
theorem reads_int {b off len cap j : Nat} {kk : IntKind} {ns : List Nat} {y : Nat} (h : Reads w (.slice (some ⟨b, off, none⟩) len cap) (ints kk ns)) (hy : ns[j]? = some y) : w.cell? ⟨b, off + j, none⟩ = some (.int kk (y : Int)) :=
  reads_cell h (by simp only [ints, List.getElem?_map, hy]; rfl)
/-- A write into a slice of one's own, in a round. -/
theorem StaysZ.own {base : Nat} (h : OwnsT enc k w base e v ts) (hg : w.grownBy w' v.ownBlock) (hm : ∀ g, v.ownBlock = some g → ¬ m g) : StaysZ B m w w' := by
  refine ⟨hg.size, fun j o hb hj hc => ?_⟩
  have hlt := (Array.getElem?_eq_some_iff.1 hj).1
  refine (hg.block j hlt fun ej => ?_).trans hj
  rcases id h.2 with ⟨e1, e2⟩ | ⟨g, cap, cur, rfl, hbg, hgg, r⟩
  · rw [e1] at ej; cases ej
  · have ej' : j = g := by simpa [Value.ownBlock] using ej
    subst ej'
    rcases hc with hc | hc
    · exact hm j rfl hc
    · rw [hgg] at hj; cases hj; cases hc
theorem own_later {base : Nat} {m' : Nat → Prop} (o : OwnsT enc k w base e v ts) (hm : ∀ g, v.ownBlock = some g → ¬ m g) (hg : ∀ j, m' j → m j ∨ w.heap.size ≤ j) : ∀ g, v.ownBlock = some g → ¬ m' g := fun g hgv h => by
  rcases hg g h with h | h
  · exact hm g hgv h
  · rcases own_lt o with e1 | ⟨b, e1, hb⟩
    · rw [e1] at hgv; cases hgv
    · rw [e1] at hgv; cases hgv; omega
theorem own_taken {base E : Nat} (o : OwnsT enc k w base e v ts) (hE : w.heap[E]? = some (.deferred (some []))) : OwnsT enc k (taken E w) base e v ts :=
  o.same (by simp [taken]) fun g cs hg hx => (World.putObj_heap_other (fun e => by subst e; rw [hE] at hx; cases hx)).trans hx
theorem ownsT_form {base N : Nat} (h : OwnsT enc k w base e v ts) (hN : ts.length = N) (hn : 0 < N) : ∃ g cap, v = .slice (some ⟨g, 0, none⟩) N cap ∧ base ≤ g ∧ g < w.heap.size ∧ N ≤ cap := by
  subst hN
  rcases id h.2 with ⟨rfl, e1⟩ | ⟨g, cap, cur, rfl, hbg, hg, hnc, hcm, hcs, htake⟩
  · rw [e1] at hn; exact absurd hn (Nat.lt_irrefl _)
  · exact ⟨g, cap, rfl, hbg, (Array.getElem?_eq_some_iff.1 hg).1, hnc⟩
theorem own_new {v' : Value} (h1 : v'.ownBlock = v.ownBlock ∨ ∃ b, v'.ownBlock = some b ∧ w.heap.size ≤ b) (hm : ∀ g, v.ownBlock = some g → ¬ m g) (hlt : ∀ j, m j → j < w.heap.size) : ∀ g, v'.ownBlock = some g → ¬ m g := fun g hg => by
  rcases h1 with h1 | ⟨b, h1, hb⟩
  · exact hm g (by rw [← h1]; exact hg)
  · rw [h1] at hg; cases hg
    intro h
    have := hlt _ h
    omega
end
end Go.Proofs.Ytfplilpefhhpnaa
/- Slices whose elements have many cells: made, copied; parts of elements loaded and stored. Over any program. -/
namespace Go.Proofs.Ytfplilpefhhpnaa
set_option linter.unusedVariables false
set_option linter.unusedSimpArgs false
open Go.RowKit Go.Shelf

/-- k cells from a place on. -/
structure CellsN (w : World) (p : Addr) (k : Nat) (vs : List Value) : Prop where
  at' : Cells w p vs
  len : vs.length = k
section
variable {w w' : World} {p : Addr} {k b o : Nat} {vs : List Value} {P : Program} {t : TypeId}
theorem CellsN.lt (h : CellsN w ⟨b, o, none⟩ k vs) (hk : 0 < k) : b < w.heap.size := by
  have hl := h.len
  obtain ⟨u, hu⟩ : ∃ u, vs[0]? = some u := ⟨_, List.getElem?_eq_getElem (by omega)⟩
  have := h.at' 0 u hu
  rw [add_plain] at this
  exact World.block_lt_of_cell? _ _ this
theorem CellsN.up (h : CellsN w ⟨b, o, none⟩ k vs) (hb : Below w.heap.size w w') : CellsN w' ⟨b, o, none⟩ k vs := ⟨fun j u hu => by
  have h1 := h.at' j u hu
  rw [add_plain] at *
  exact (hb.cell (p := ⟨b, o + j, none⟩) (World.block_lt_of_cell? _ _ h1)).trans h1, h.len⟩
theorem CellsN.gr {r : Nat} (h : CellsN w ⟨b, o, none⟩ k vs) (hg : w.grownBy w' (some r)) (hne : b ≠ r) : CellsN w' ⟨b, o, none⟩ k vs := ⟨fun j u hu => by
  have h1 := h.at' j u hu
  rw [add_plain] at *
  exact (World.cell?_of_block (hg.block b (World.block_lt_of_cell? _ _ h1) (by simpa using hne))).trans h1, h.len⟩
theorem CellsN.kept {K : Nat → Prop} (h : CellsN w ⟨b, o, none⟩ k vs) (hk : Kept K w w') (hb : K b) : CellsN w' ⟨b, o, none⟩ k vs := ⟨fun j u hu => by
  have h1 := h.at' j u hu
  rw [add_plain] at *
  exact (World.cell?_of_block (hk.block b hb)).trans h1, h.len⟩
/-- A part. -/
theorem CellsN.part {us : List Value} (h : CellsN w ⟨b, o, none⟩ k vs) (c : Nat) {k' : Nat} (hu : (vs.drop c).take k' = us) (hl : c + k' ≤ k) : CellsN w ⟨b, o + c, none⟩ k' us := by
  have hv := h.len
  subst hu
  refine ⟨fun j u hj => ?_, by rw [List.length_take, List.length_drop]; omega⟩
  have hlt := (List.getElem?_eq_some_iff.1 hj).1
  rw [List.length_take, List.length_drop] at hlt
  rw [List.getElem?_take, if_pos (by omega), List.getElem?_drop] at hj
  have := h.at' _ u hj
  rw [add_plain] at *
  rw [Nat.add_assoc]
  exact this
theorem CellsN.cell {u : Value} (h : CellsN w ⟨b, o, none⟩ k vs) {j : Nat} (hu : vs[j]? = some u) : w.cell? ⟨b, o + j, none⟩ = some u := by
  have := h.at' j u hu
  rwa [add_plain] at this
theorem I.ldM (h : CellsN w p k vs) (hT : aggB P t = true) (hz : szB P t = some k) : (Instr.loadAt t (.pointer (some p))).run P w = .ok (.agg vs.toArray) w := I.ldN hT (by rw [hz, h.len]) h.at'
theorem RowL.cellsN {g e off : Nat} {xs : List Value} (h : RowL w g e xs) (hv : (xs.drop off).take k = vs) (hl : off + k ≤ xs.length) : CellsN w ⟨g, off, none⟩ k vs := by
  have hlen : vs.length = k := by rw [← hv, List.length_take, List.length_drop]; omega
  exact ⟨h.cells (by rw [hlen]; exact hv), hlen⟩
theorem RowL.elemN {α : Type} {enc : α → List Value} {g e i : Nat} {ts : List α} {x : α} (E : Enc enc k) (h : RowL w g e (ts.flatMap enc)) (hx : ts[i]? = some x) : CellsN w ⟨g, i * k, none⟩ k (enc x) := by
  have hi := (List.getElem?_eq_some_iff.1 hx).1
  have hf := E.flat ts
  have hin : i * k + k ≤ ts.length * k := by
    have : (i + 1) * k ≤ ts.length * k := Nat.mul_le_mul_right _ hi
    rw [Nat.add_mul] at this
    omega
  refine h.cellsN ?_ (by omega)
  rw [E.drop, ← Nat.one_mul k, E.take]
  rw [show ts.drop i = x :: ts.drop (i + 1) by rw [← (List.getElem?_eq_some_iff.1 hx).2]; exact List.drop_eq_getElem_cons hi]
  simp
theorem ReadsT.elemN {α : Type} {enc : α → List Value} (E : Enc enc k) {off n cap i : Nat} {ts : List α} {x : α} (h : ReadsT enc k w (.slice (some ⟨b, off, none⟩) n cap) ts) (hx : ts[i]? = some x) : CellsN w ⟨b, off + i * k, none⟩ k (enc x) := by
  obtain ⟨b', off', e, _, hc⟩ := h.get E hx
  simp only [Option.some.injEq, Addr.mk.injEq] at e
  obtain ⟨rfl, rfl, _⟩ := e
  exact ⟨hc, E.len x⟩
theorem ReadsT.kp {α : Type} {enc : α → List Value} {K : Nat → Prop} {off n cap : Nat} {ts : List α} (h : ReadsT enc k w (.slice (some ⟨b, off, none⟩) n cap) ts) (hk : Kept K w w') (hb : K b) : ReadsT enc k w' (.slice (some ⟨b, off, none⟩) n cap) ts :=
  h.sameB hk.size fun _ ho => (hk.block b hb).trans ho
end

section
variable {α : Type} {enc : α → List Value} {k : Nat} {P : Program} {w : World} {o : Oper} {n : Nat} {D : List Deferred} {M : Slots} {T e : TypeId} {z : Value} {bytes : Nat} {r : Option Nat} {ops : Array Oper} {Q : Exit → Act → World → Prop} {rest : List Oper}
end
end Go.Proofs.Ytfplilpefhhpnaa
/- Equal structs and arrays of integers, truth values, strings, and of such: cell by cell. Over any program. -/
namespace Go.Proofs.Ytfplilpefhhpnaa
set_option linter.unusedVariables false
set_option linter.unusedSimpArgs false
open Go.RowKit Go.Shelf
section
variable {P : Program}
def eqF (P : Program) (g : TypeId → List Value → List Value → Option (List Bool)) (xs ys : List Value) : List Field → Option (List Bool)
  | [] => some []
  | f :: fs => if f.name = "_" then none else match g f.type ((xs.drop f.offset).take (P.cellsOf f.type)) ((ys.drop f.offset).take (P.cellsOf f.type)), eqF P g xs ys fs with
    | some a, some b => some (a ++ b)
    | _, _ => none
def eqI (g : List Value → List Value → Option (List Bool)) (c : Nat) (xs ys : List Value) : List Nat → Option (List Bool)
  | [] => some []
  | i :: is => match g ((xs.drop (i * c)).take c) ((ys.drop (i * c)).take c), eqI g c xs ys is with
    | some a, some b => some (a ++ b)
    | _, _ => none
def eqC (P : Program) : Nat → TypeId → List Value → List Value → Option (List Bool)
  | 0, _, _, _ => none
  | d + 1, t, xs, ys => match P.underlying t with
    | some (.struct fs) => if P.stoodInHeld t = true then none else eqF P (eqC P d) xs ys fs.toList
    | some (.array n e) => if n = 0 then none else eqI (eqC P d e) (P.cellsOf e) xs ys (List.range n)
    | some (.int _) => match xs, ys with
      | [.int k a], [.int k' b] => if k = k' then some [decide (a = b)] else none
      | _, _ => none
    | some .bool => match xs, ys with
      | [.bool a], [.bool b] => some [a == b]
      | _, _ => none
    | some .string => match xs, ys with
      | [.string a], [.string b] => some [a.toList == b.toList]
      | _, _ => none
    | _ => none
def valC (P : Program) (t : TypeId) (xs : List Value) : Value := match P.underlying t with
  | some (.struct _) | some (.array _ _) => .agg xs.toArray
  | _ => xs.headD undef
theorem eqC_part {d : Nat} {t : TypeId} {xs ys : List Value} {off : Nat} {bs : List Bool} (h : eqC P d t ((xs.drop off).take (P.cellsOf t)) ((ys.drop off).take (P.cellsOf t)) = some bs) (w : World) :
    (part t xs.toArray off).run P w = .ok (valC P t ((xs.drop off).take (P.cellsOf t))) w ∧ (part t ys.toArray off).run P w = .ok (valC P t ((ys.drop off).take (P.cellsOf t))) w := by
  cases d with
  | zero => cases h
  | succ d =>
    have one : ∀ (zs : List Value) (v : Value), (zs.drop off).take (P.cellsOf t) = [v] → zs.toArray[off]? = some v := by
      intro zs v hz
      have : ((zs.drop off).take (P.cellsOf t))[0]? = some v := by rw [hz]; rfl
      rw [List.getElem?_take] at this
      split at this
      · simpa using this
      · cases this
    have agg : ∀ zs : List Value, zs.toArray.extract off (off + P.cellsOf t) = ((zs.drop off).take (P.cellsOf t)).toArray := by
      intro zs
      simp [List.extract]
    cases hu : P.underlying t with
    | none => simp [eqC, hu] at h
    | some kd =>
      obtain ⟨i, hi⟩ := info_of_underlying hu
      cases kd <;> simp only [eqC, hu] at h <;> try (cases h; done)
      case bool =>
        split at h
        · rename_i a b e1 e2
          rw [e1, e2]
          simp [part, isAgg, run_underlying hu, valC, hu, one xs _ e1, one ys _ e2]
        · cases h
      case int =>
        split at h
        · rename_i a b e1 e2
          rw [e1, e2]
          simp [part, isAgg, run_underlying hu, valC, hu, one xs _ e1, one ys _ e2]
        · cases h
      case string =>
        split at h
        · rename_i a b e1 e2
          rw [e1, e2]
          simp [part, isAgg, run_underlying hu, valC, hu, one xs _ e1, one ys _ e2]
        · cases h
      case struct fs => simp [part, isAgg, run_underlying hu, run_sizeOf _ hi, valC, hu, List.extract]
      case array n e => simp [part, isAgg, run_underlying hu, run_sizeOf _ hi, valC, hu, List.extract]
theorem fieldsOf_eq {t : TypeId} {fs : Array Field} (h : P.underlying t = some (.struct fs)) : P.fieldsOf t = fs := by simp [Program.fieldsOf, h]
theorem run_eqF {d dd : Nat} {xs ys : List Value} (IH : ∀ t xs ys bs w, eqC P d t xs ys = some bs → (Op.equalIn dd t (valC P t xs) (valC P t ys)).run P w = .ok (bs.all id) w) :
    ∀ (fs : List Field) (bs : List Bool) (w : World), eqF P (eqC P d) xs ys fs = some bs → (Op.eqFields dd xs.toArray ys.toArray fs).run P w = .ok (bs.all id) w
  | [], bs, w, h => by simp only [eqF, Option.some.injEq] at h; subst h; simp [Op.eqFields]
  | f :: fs, bs, w, h => by
    simp only [eqF] at h
    split at h
    · cases h
    rename_i hn
    split at h
    · rename_i a b h1 h2
      cases h
      obtain ⟨p1, p2⟩ := eqC_part h1 w
      simp only [Op.eqFields, ne_eq, hn, not_false_eq_true, if_true, Sem.run_bind, p1, p2, Result.andThen_ok, IH _ _ _ _ w h1, List.all_append]
      cases ha : a.all id
      · simp
      · simpa using run_eqF IH fs b w h2
    · cases h
theorem run_eqI {d dd : Nat} {e : TypeId} {xs ys : List Value} (IH : ∀ t xs ys bs w, eqC P d t xs ys = some bs → (Op.equalIn dd t (valC P t xs) (valC P t ys)).run P w = .ok (bs.all id) w) :
    ∀ (is : List Nat) (bs : List Bool) (w : World), eqI (eqC P d e) (P.cellsOf e) xs ys is = some bs → (Op.eqItems dd e (P.cellsOf e) xs.toArray ys.toArray is).run P w = .ok (bs.all id) w
  | [], bs, w, h => by simp only [eqI, Option.some.injEq] at h; subst h; simp [Op.eqItems]
  | i :: is, bs, w, h => by
    simp only [eqI] at h
    split at h
    · rename_i a b h1 h2
      cases h
      obtain ⟨p1, p2⟩ := eqC_part h1 w
      simp only [Op.eqItems, Sem.run_bind, p1, p2, Result.andThen_ok, IH _ _ _ _ w h1, List.all_append]
      cases ha : a.all id
      · simp
      · simpa using run_eqI IH is b w h2
    · cases h
theorem run_eqC : ∀ (d k : Nat) (t : TypeId) (xs ys : List Value) (bs : List Bool) (w : World), eqC P d t xs ys = some bs → (Op.equalIn (d + k) t (valC P t xs) (valC P t ys)).run P w = .ok (bs.all id) w
  | 0, _, _, _, _, _, _, h => by cases h
  | d + 1, k, t, xs, ys, bs, w, h => by
    have IH := fun t xs ys bs w => run_eqC d k t xs ys bs w
    rw [show d + 1 + k = (d + k) + 1 by omega]
    cases hu : P.underlying t with
    | none => simp [eqC, hu] at h
    | some kd =>
      cases kd <;> simp only [eqC, hu] at h <;> try (cases h; done)
      case bool =>
        split at h
        · rename_i a b
          cases h
          simp [valC, hu, run_equalIn_bool' w (d + k) t a b hu]
        · cases h
      case int q =>
        split at h
        · rename_i k1 a k2 b
          split at h
          · rename_i hk
            subst hk
            cases h
            simp only [valC, hu, List.headD_cons, List.all_cons, List.all_nil, Bool.and_true, id]
            exact run_equalIn_int w (d + k) t k1 q a b hu
          · cases h
        · cases h
      case string =>
        split at h
        · rename_i a b
          cases h
          simp [valC, hu, run_equalIn_string w (d + k) t a b hu]
        · cases h
      case struct fs =>
        split at h
        · cases h
        rename_i hst
        simp only [valC, hu]
        have hf := fieldsOf_eq hu
        rw [run_equalIn_struct w (d + k) t _ _ (by rw [hf]; exact hu) (by simpa using hst), hf]
        exact run_eqF IH _ _ _ h
      case array n e =>
        split at h
        · cases h
        rename_i hn0
        cases n with
        | zero => exact absurd rfl hn0
        | succ n =>
          have hi : ∃ i, P.info? e = some i := by
            rw [show List.range (n + 1) = 0 :: (List.range n).map Nat.succ by rw [List.range_succ_eq_map]] at h
            simp only [eqI] at h
            split at h
            · rename_i a b h1 h2
              cases d with
              | zero => cases h1
              | succ d =>
                cases hue : P.underlying e with
                | none => simp [eqC, hue] at h1
                | some _ => exact info_of_underlying hue
            · cases h
          obtain ⟨i, hi⟩ := hi
          simp only [valC, hu]
          rw [run_equalIn_array w (d + k) _ _ hu hi]
          exact run_eqI IH _ _ _ h
theorem valC_agg {t : TypeId} {xs : List Value} (h : aggB P t = true) : valC P t xs = .agg xs.toArray := by
  unfold aggB at h
  unfold valC
  split at h <;> first | rfl | simp_all
variable {n : Nat} {D : List Deferred} {M : Slots} {w : World} {o : Oper} {x y : Operand} {t u : TypeId} {xs ys : List Value} {bs : List Bool} {p : Prop} [Decidable p]
theorem R.eqBsS (ho : o.op = .binOp .eql t x y u) (hx : evM M x = some (.agg xs.toArray)) (hy : evM M y = some (.agg ys.toArray)) (ht : aggB P t = true) (hg : P.eqGuardType P.depth t = false) (hb : eqC P 9 t xs ys = some bs) (hp : bs.all id = decide p) : Runs P n D M o w (.value (.bool (decide p))) w := R.bin ho hx hy (by
  have h := run_eqC 9 9991 t xs ys bs w hb
  rw [valC_agg ht, valC_agg ht] at h
  simp only [Sem.run_bind, run_eqGuard_agg w _ _ _ _ _ _ hg, Result.andThen_ok, run_eql_struct]
  rw [show (10000 : Nat) = 9 + 9991 from rfl, h, hp]
  rfl)
theorem R.neS' (ho : o.op = .binOp .neq t x y u) (hx : evM M x = some (.agg xs.toArray)) (hy : evM M y = some (.agg ys.toArray)) (ht : aggB P t = true) (hg : P.eqGuardType P.depth t = false) (hb : eqC P 9 t xs ys = some bs) (hp : bs.all id = decide p) : Runs P n D M o w (.value (.bool (decide ¬p))) w := R.bin ho hx hy (by
  have h := run_eqC 9 9991 t xs ys bs w hb
  rw [valC_agg ht, valC_agg ht] at h
  simp only [Sem.run_bind, run_eqGuard_agg w _ _ _ _ _ _ hg, Result.andThen_ok, run_neq_struct]
  rw [show (10000 : Nat) = 9 + 9991 from rfl, h, hp]
  simp)
theorem R.eqST (ho : o.op = .binOp .eql t x y u) (hx : evM M x = some (.agg xs.toArray)) (hy : evM M y = some (.agg ys.toArray)) (ht : aggB P t = true) (hg : P.eqGuardType P.depth t = false) (hb : eqC P 9 t xs ys = some bs) (hp : bs.all id = decide p) (h : p) : Runs P n D M o w (.value (.bool true)) w := by
  have := R.eqBsS (w := w) (n := n) (D := D) ho hx hy ht hg hb hp
  rwa [decide_eq_true h] at this
theorem R.neST (ho : o.op = .binOp .neq t x y u) (hx : evM M x = some (.agg xs.toArray)) (hy : evM M y = some (.agg ys.toArray)) (ht : aggB P t = true) (hg : P.eqGuardType P.depth t = false) (hb : eqC P 9 t xs ys = some bs) (hp : bs.all id = decide p) (h : p) : Runs P n D M o w (.value (.bool false)) w := by
  have := R.neS' (w := w) (n := n) (D := D) ho hx hy ht hg hb hp
  rwa [decide_eq_false (not_not_intro h)] at this
theorem R.neSF (ho : o.op = .binOp .neq t x y u) (hx : evM M x = some (.agg xs.toArray)) (hy : evM M y = some (.agg ys.toArray)) (ht : aggB P t = true) (hg : P.eqGuardType P.depth t = false) (hb : eqC P 9 t xs ys = some bs) (hp : bs.all id = decide p) (h : ¬p) : Runs P n D M o w (.value (.bool true)) w := by
  have := R.neS' (w := w) (n := n) (D := D) ho hx hy ht hg hb hp
  rwa [decide_eq_true h] at this
end
end Go.Proofs.Ytfplilpefhhpnaa
/- Arrays of numbers, in a row and as values. Over any program. -/
namespace Go.Proofs.Ytfplilpefhhpnaa
set_option linter.unusedVariables false
set_option linter.unusedSimpArgs false
open Go.RowKit Go.Shelf
section
variable {P : Program} {w w' : World} {t : TypeId} {o : Oper} {x y : Operand} {n : Nat} {D : List Deferred} {M : Slots} {r : Option Nat} {ops : Array Oper} {Q : Exit → Act → World → Prop} {rest : List Oper}
end
end Go.Proofs.Ytfplilpefhhpnaa
/- Equal arrays of numbers. Over any program. -/
namespace Go.Proofs.Ytfplilpefhhpnaa
set_option linter.unusedVariables false
set_option linter.unusedSimpArgs false
open Go.RowKit Go.Shelf
section
variable {P : Program} {w : World} {n : Nat} {D : List Deferred} {M : Slots} {o : Oper} {x y : Operand} {t u : TypeId}
end
end Go.Proofs.Ytfplilpefhhpnaa
/- append(l, make([]T, n)...): onto a slice of the call's own, of elements of one cell. Over any program. -/
namespace Go.Proofs.Ytfplilpefhhpnaa
set_option linter.unusedVariables false
set_option linter.unusedSimpArgs false
open Go.RowKit Go.Shelf
section
variable {P : Program} {w : World} {T TI e : TypeId} {z : Value} {bytes : Nat} {kn : IntKind}
theorem RowL.asInts {g n : Nat} {xs : List Value} (h : RowL w g e xs) (k : IntKind) (ws : List Nat) (hx : xs = ints k ws) (hn : ws.length = n) : Reads w (.slice (some ⟨g, 0, none⟩) n n) (ints k ws) := by
  subst hx
  have := h.reads ws.length (by simp)
  rw [List.length_map, hn] at this
  exact this
variable {o : Oper} {n : Nat} {D : List Deferred} {M : Slots} {r : Option Nat} {ops : Array Oper} {Q : Exit → Act → World → Prop} {rest : List Oper}
end
end Go.Proofs.Ytfplilpefhhpnaa
/- Regions that draw their order: several steps that make memory, none of which harms what the others made: one goal for each step, not one for each order. -/
namespace Go.Proofs.Ytfplilpefhhpnaa
set_option linter.unusedVariables false
set_option linter.unusedSimpArgs false
open Go.RowKit Go.Shelf

def dstO (ops : Array Oper) (i : Nat) : Option Nat := (ops[i]?).bind (·.dst)
def depB (ops : Array Oper) (i j : Nat) : Bool := match ops[i]? with
  | some o => o.after.any fun e => Region.binds .any e && Nat.beq e.on j
  | none => false
def AtD (d : Option Nat) (a : Act) (v : Value) : Prop := ∀ s, d = some s → a.tmps.getD s undef = v

/-- One step: what it needs of the others, what it makes. -/
structure MS (P : Program) (ops : Array Oper) (ok : World → Prop) (acts : List Nat) (φ : Nat → Value → World → Prop) (i : Nat) (R : Value → World → Prop) (n : Nat) (D : List Deferred) (M : Slots) (w : World) : Prop where
  h : ∀ a o, ops[i]? = some o → Fr n D M a → (∀ j ∈ acts, depB ops i j = true → ∃ v, AtD (dstO ops j) a v ∧ φ j v w) → ∀ K : Act → World → Prop, (∀ v w', ok w' → R v w' → K (a.put o.dst v) w') → stepR P ops ok i K a w

section
variable {P : Program} {ops : Array Oper} {Q : Exit → Act → World → Prop} {ok : World → Prop} {acts : List Nat} {φ : Nat → Value → World → Prop} {n i : Nat} {D : List Deferred} {M : Slots} {w w' : World} {o : Oper} {v : Value} {R : Value → World → Prop}
theorem MS.val (hi : ops[i]? = some o) (hr : Runs P n D M o w (.value v) w') (hg : wantB ops M o.guard = some true) (hok : ok w') (h : R v w') : MS P ops ok acts φ i R n D M w := MS.mk fun a o' ho F _ K hK => by
  obtain rfl : o = o' := Option.some.inj (hi.symm.trans ho)
  unfold stepR
  simp only [hi]
  rw [if_pos (F.want hg)]
  exact .inl ⟨v, w', hr a F, hok, hK _ _ hok h⟩
theorem MS.call {g : FuncId} {args : Array Value} {R' : Ending → World → Prop} (hi : ops[i]? = some o) (hr : Runs P n D M o w (.enter g args) w) (hg : wantB ops M o.guard = some true) (hc : Calls P g args w R') (k : ∀ e w'', R' e w'' → ∃ v, e = .returned v ∧ ok w'' ∧ R v w'') : MS P ops ok acts φ i R n D M w := MS.mk fun a o' ho F _ K hK => by
  obtain rfl : o = o' := Option.some.inj (hi.symm.trans ho)
  unfold stepR
  simp only [hi]
  rw [if_pos (F.want hg)]
  exact .inr (.inr ⟨g, args, w, R', hr a F, hc, fun e w'' hR => by
    obtain ⟨v, he, h1, h2⟩ := k e w'' hR
    exact ⟨v, he, h1, hK _ _ h1 h2⟩⟩)

end
end Go.Proofs.Ytfplilpefhhpnaa
/- append to a slice of structs without room, told that no row that was there is written; the steps of drawn regions that make memory. -/
namespace Go.Proofs.Ytfplilpefhhpnaa
set_option linter.unusedVariables false
set_option linter.unusedSimpArgs false
open Go.RowKit Go.Shelf

section
variable {α : Type} {enc : α → List Value} {k : Nat} {P : Program} {T e : TypeId} {z : Value} {bytes : Nat}
theorem run_append_t0 (E : Enc enc k) (I : ElT P T e z k bytes) (ty : TypeId) {base g : Nat} {vx : Value} {us : List α} {w : World} (hown : OwnsT enc k w base e (.slice (some ⟨g, 0, none⟩) 0 0) []) (hr : ReadsT enc k w vx us)
    (h63 : us.length ≤ maxLen) (hb : us.length * bytes ≤ 140737488355328) (hbase : base ≤ w.heap.size) :
    ∃ v' w', (Builtin.append_ #[T, T] ty #[.slice (some ⟨g, 0, none⟩) 0 0, vx]).run P w = .ok v' w' ∧ OwnsT enc k w' base e v' us ∧ Below w.heap.size w w' := by
  obtain ⟨i, hi, hz, hsz, hby⟩ := I.info
  obtain ⟨a, cap, rfl, hc, hcell⟩ := hr
  rcases Classical.em (us = []) with h0 | h0
  · subst h0
    refine ⟨_, w, run_append_nothing w T T ty e i I.under hi _ 0 0 (Nat.le_refl _) _ ?_, hown, Below.refl _ _⟩
    cases a with
    | none => exact Src.ofNil w I.under cap
    | some p => exact Src.ofSlice w I.under p 0 cap [] (by simp) (by simp) (by simp)
  · obtain ⟨b, off, rfl, _, hh⟩ := hcell h0
    have hnews : ∀ j u, (us.flatMap enc)[j]? = some u → w.cell? ((⟨b, off, none⟩ : Addr).add j) = some u := fun j u hj => by
      have hjl : j < us.length * k := by
        have := (List.getElem?_eq_some_iff.1 hj).1
        rwa [E.flat] at this
      rw [Addr.add_lit, hh j hjl, hj]
    obtain ⟨v', w', h1, h2, h3⟩ := run_append_arg_grows (P := P) (w := w) T ty e i z k bytes I.under hi hz hsz hby I.many E.pos ⟨g, 0, none⟩ 0 0 [] (by simp) (by simp) ⟨b, off, none⟩ us.length cap (us.flatMap enc) (E.flat us) hnews (by have := List.length_pos_iff.2 h0; omega) (by omega) (by simpa using hb)
    refine ⟨v', w', h1, ?_, ⟨h3.os, h3.tape, h3.output, h3.size, fun j hj => h3.block j hj (by simp)⟩⟩
    have h4 : OwnsT enc k w' w.heap.size e v' us := by
      unfold OwnsT
      simpa using h2
    exact h4.lower hbase
end

section
variable {α : Type} {enc : α → List Value} {k : Nat} {P : Program} {ops : Array Oper} {Q : Exit → Act → World → Prop} {ok : World → Prop} {acts : List Nat} {φ : Nat → Value → World → Prop} {n i f : Nat} {D : List Deferred} {M : Slots} {w w' : World} {o : Oper} {v : Value} {Rv : Value → World → Prop} {T e t : TypeId} {z : Value} {bytes : Nat} {listed listed1 : Array Bool} {K : Slots → World → Prop} {r : Option Nat} {rest : List Oper}
theorem LL.append0 {xs : Array Operand} {g base : Nat} {vx : Value} {us : List α} (ho : o.op = .call { callee := .builtin .append, args := xs, argTypes := #[T, T] }) (hx : evsM M xs.toList = some [.slice (some ⟨g, 0, none⟩) 0 0, vx]) (E : Enc enc k) (I : ElT P T e z k bytes) (hown : OwnsT enc k w base e (.slice (some ⟨g, 0, none⟩) 0 0) []) (hr : ReadsT enc k w vx us)
    (h63 : us.length ≤ maxLen) (hb : us.length * bytes ≤ 140737488355328) (hbase : base ≤ w.heap.size) (hd : dstB n o.dst = true) (hg : wantB ops M o.guard = some true)
    (c : ∀ v' w', OwnsT enc k w' base e v' us → Below w.heap.size w w' → LL r P ops Q n D (putM M o.dst v') rest w') : LL r P ops Q n D M (o :: rest) w := by
  obtain ⟨v', w', h1, h2, h3⟩ := run_append_t0 E I o.type hown hr h63 hb hbase
  refine LL.val (v := v') (R.builtin ho hx fun b => ?_) hd (by rw [ho]; rfl) hg (c v' w' h2 h3)
  unfold builtin
  simp only [Sem.run_bind, h1, Result.andThen_ok, Sem.run_pure]
theorem MS.append0 {xs : Array Operand} {g base : Nat} {vx : Value} {us : List α} (hi : ops[i]? = some o) (ho : o.op = .call { callee := .builtin .append, args := xs, argTypes := #[T, T] }) (hx : evsM M xs.toList = some [.slice (some ⟨g, 0, none⟩) 0 0, vx]) (E : Enc enc k) (I : ElT P T e z k bytes) (hown : OwnsT enc k w base e (.slice (some ⟨g, 0, none⟩) 0 0) []) (hr : ReadsT enc k w vx us)
    (h63 : us.length ≤ maxLen) (hb : us.length * bytes ≤ 140737488355328) (hbase : base ≤ w.heap.size) (hg : wantB ops M o.guard = some true)
    (c : ∀ v' w', OwnsT enc k w' base e v' us → Below w.heap.size w w' → ok w' ∧ Rv v' w') : MS P ops ok acts φ i Rv n D M w := by
  obtain ⟨v', w', h1, h2, h3⟩ := run_append_t0 E I o.type hown hr h63 hb hbase
  have h := c v' w' h2 h3
  refine MS.val (v := v') hi (R.builtin ho hx fun b => ?_) hg h.1 h.2
  unfold builtin
  simp only [Sem.run_bind, h1, Result.andThen_ok, Sem.run_pure]
theorem MS.lit {ps : Array (Nat × Operand)} {m : Nat} {vs : List (Nat × Value)} (cs : List Value) (len : Nat) (hi : ops[i]? = some o) (ho : o.op = .buildSlice t m ps) (hx : evpM M ps.toList = some vs) (hr : ∀ w, (Instr.buildSlice t m vs.toArray).run P w = .ok (.slice (some ⟨w.heap.size, 0, none⟩) len len) (w.alloc (.cells cs.toArray e))) (hg : wantB ops M o.guard = some true)
    (c : ∀ w1 g, g = w.heap.size → RowL w1 g e cs → Below w.heap.size w w1 → ok w1 ∧ Rv (.slice (some ⟨g, 0, none⟩) len len) w1) : MS P ops ok acts φ i Rv n D M w :=
  have h := c _ _ rfl (RowL.new w e cs) (Below.alloc0 w _)
  MS.val hi (R.buildSlice ho hx (hr w)) hg h.1 h.2
theorem AA.weak {L : List (Nat × Value)} (h : AA P ops ok Q n D (sl L) f listed1 w) (hL : Fits M L) (he : listed1 = listed) : AA P ops ok Q n D M f listed w := by
  subst he; exact AA.mk fun a F => h.h a (F.keep L hL)
theorem SR.lit {ps : Array (Nat × Operand)} {m : Nat} {vs : List (Nat × Value)} (cs : List Value) (len : Nat) (hi : ops[i]? = some o) (ho : o.op = .buildSlice t m ps) (hx : evpM M ps.toList = some vs) (hr : ∀ w, (Instr.buildSlice t m vs.toArray).run P w = .ok (.slice (some ⟨w.heap.size, 0, none⟩) len len) (w.alloc (.cells cs.toArray e))) (hd : dstB n o.dst = true) (hg : wantB ops M o.guard = some true)
    (c : ∀ w1 g, g = w.heap.size → RowL w1 g e cs → Below w.heap.size w w1 → ok w1 ∧ K (putM M o.dst (.slice (some ⟨g, 0, none⟩) len len)) w1) : SR P ops ok i K n D M w :=
  have h := c _ _ rfl (RowL.new w e cs) (Below.alloc0 w _)
  SR.val hi (R.buildSlice ho hx (hr w)) hd hg h.1 h.2
theorem SR.appendT2 {xs : Array Operand} {vx : Value} {base : Nat} {ts us : List α} (hi : ops[i]? = some o) (ho : o.op = .call { callee := .builtin .append, args := xs, argTypes := #[T, T] }) (hx : evsM M xs.toList = some [v, vx]) (E : Enc enc k) (I : ElT P T e z k bytes) (hown : OwnsT enc k w base e v ts) (hr : ReadsT enc k w vx us)
    (h63 : ts.length + us.length ≤ maxLen) (hb : (ts.length + us.length) * bytes ≤ 140737488355328) (hbase : base ≤ w.heap.size) (hd : dstB n o.dst = true) (hg : wantB ops M o.guard = some true)
    (c : ∀ v' w', OwnsT enc k w' base e v' (ts ++ us) → w.grownBy w' v.ownBlock → (v'.ownBlock = v.ownBlock ∨ ∃ b, v'.ownBlock = some b ∧ w.heap.size ≤ b) → ok w' ∧ K (putM M o.dst v') w') : SR P ops ok i K n D M w := by
  obtain ⟨v', w', h1, h2, h3, h4⟩ := run_append_t2 E I o.type hown hr h63 hb hbase
  have h := c v' w' h2 h3 h4
  refine SR.val (v := v') hi (R.builtin ho hx fun b => ?_) hd hg h.1 h.2
  unfold builtin
  simp only [Sem.run_bind, h1, Result.andThen_ok, Sem.run_pure]
/-- A store of one cell into a row that is known, as a step of a drawn region. -/
theorem SR.store {x y : Operand} {g off e : Nat} {xs : List Value} (hi : ops[i]? = some o) (ho : o.op = .store t x y) (hx : evM M x = some (.pointer (some ⟨g, off, none⟩))) (hy : evM M y = some v) (hz : szB P t = some 1) (hr : RowL w g e xs) (hl : off < xs.length) (h1 : v.oneCell' = true) (hcs : v.cells = #[v]) (hd : o.dst = none) (hg : wantB ops M o.guard = some true)
    (c : ∀ w1, RowL w1 g e (xs.set off v) → w.grownBy w1 (some g) → w1.heap.size = w.heap.size → ok w1 ∧ K M w1) : SR P ops ok i K n D M w := SR.mk fun K' hK a F => by
  have h := c _ (hr.set off v) (grown_set w _ v) (by simp [World.setCell])
  unfold stepR
  simp only [hi]
  rw [if_pos (F.want hg)]
  refine .inr (.inl ⟨_, R.store ho hx hy (I.st1R hz hr hl h1 hcs) a F, h.1, ?_⟩)
  rw [hd]
  exact hK _ _ h.2 _ F
end
end Go.Proofs.Ytfplilpefhhpnaa
/- slots: a row's words. -/
namespace Go.Proofs.Ytfplilpefhhpnaa
set_option linter.unusedVariables false
set_option linter.unusedSimpArgs false
open Go.RowKit Go.Shelf
def uE (x : Nat) : List Value := [.int .u64 (x : Int)]

theorem uEnc : Enc uE 1 := ⟨fun _ => rfl, fun t u hu => by
  simp only [uE, List.mem_cons, List.not_mem_nil, or_false] at hu
  subst hu
  rfl, by decide⟩

theorem flat_u (ws : List Nat) : ws.flatMap uE = ints .u64 ws := by
  induction ws with
  | nil => rfl
  | cons x ws ih => rw [List.flatMap_cons, ih]; rfl

theorem Try.infoU : (Try.prog.info? 25).map (fun i => (i.zero, i.size, i.bytes)) = some (some (.int .u64 0), 1, 8) := by kernel_rfl

theorem info_parts_t {P : Program} {T e : TypeId} {z : Value} {k bytes : Nat} (hu : P.underlying T = some (.slice e)) (h : (P.info? e).map (fun i => (i.zero, i.size, i.bytes)) = some (some z, k, bytes)) (hz : z.cells.size = k) : ElT P T e z k bytes := by
  refine ⟨hu, ?_, hz⟩
  cases hi : P.info? e with
  | none => rw [hi] at h; cases h
  | some i =>
    rw [hi] at h
    simp only [Option.map_some, Option.some.injEq, Prod.mk.injEq] at h
    exact ⟨i, rfl, h.1, h.2.1, h.2.2⟩

theorem ElU : ElT Try.prog 22 25 (.int .u64 0) 1 8 := info_parts_t Try.underlying22 Try.infoU rfl

abbrev rowV (v : Value) (left : Nat) : Value := .agg #[v, .int .u64 (left : Int)]
abbrev celV (v : Value) : Value := .agg #[v]
def ptrN (s : List Nat) (j : Nat) : Nat := (s[2 * j + 1]?).getD 0
def keyN (s : List Nat) (j : Nat) : Nat := (s[2 * j]?).getD 0
theorem ptrN_at {s : List Nat} {j : Nat} (h : 2 * j + 1 < s.length) : s[2 * j + 1]? = some (ptrN s j) := by
  unfold ptrN
  rw [List.getElem?_eq_getElem h]
  rfl
theorem keyN_at {s : List Nat} {j : Nat} (h : 2 * j < s.length) : s[2 * j]? = some (keyN s j) := by
  unfold keyN
  rw [List.getElem?_eq_getElem h]
  rfl
def aheadN (left : Nat) (s : List Nat) (j : Nat) : Nat := if j = 0 then left else ptrN s (j - 1)
/-- A word of a slice, wherever. -/
theorem u_at {w : World} {a : Option Addr} {n cap j x : Nat} {s : List Nat} (h : ReadsT uE 1 w (.slice a n cap) s) (hx : s[j]? = some x) : ∃ b o, a = some ⟨b, o, none⟩ ∧ b < w.heap.size ∧ ∀ W, Below w.heap.size w W → W.cell? ⟨b, o + j, none⟩ = some (.int .u64 (x : Int)) := by
  obtain ⟨b, o, e, lb, cs⟩ := h.one uEnc hx
  refine ⟨b, o, e, lb, fun W hb => ?_⟩
  exact (hb.cell (p := ⟨b, o + j, none⟩) lb).trans (cs _ rfl)
set_option maxRecDepth 100000
set_option maxHeartbeats 2000000
theorem keyWord_any (j : Nat) (w : World) (h : j ≤ 1048576) : Calls Try.prog 64 #[.int .i64 (j : Int)] w fun e w' => e = .returned (.int .i64 ((2 * j : Nat) : Int)) ∧ w = w' := by
  refine X.fn Try.func64 rfl (n := 5) rfl rfl ?_
  refine CC.seq ?_
  refine CC.region ?_
  refine LL.val (R.assign rfl rfl) rfl rfl rfl ?_
  refine LL.nilS ?_
  refine CC.seq ?_
  refine CC.region ?_
  refine LL.val (R.move rfl rfl) rfl rfl rfl ?_
  refine LL.val (R.mulcN rfl rfl rfl rfl (by omega)) rfl rfl rfl ?_
  refine LL.val (R.assign rfl rfl) rfl rfl rfl ?_
  refine LL.nilS ?_
  refine CC.ret ?_
  refine EE.ret _ rfl rfl ?_
  exact ⟨rfl, rfl⟩
--C slots_ptrWord | ptrWord_any _ @w @p | S
theorem ptrWord_any (j : Nat) (w : World) (h : j ≤ 1048576) : Calls Try.prog 62 #[.int .i64 (j : Int)] w fun e w' => e = .returned (.int .i64 ((2 * j + 1 : Nat) : Int)) ∧ w = w' := by
  refine X.fn Try.func62 rfl (n := 6) rfl rfl ?_
  refine CC.seq ?_
  refine CC.region ?_
  refine LL.val (R.assign rfl rfl) rfl rfl rfl ?_
  refine LL.nilS ?_
  refine CC.seq ?_
  refine CC.region ?_
  refine LL.val (R.move rfl rfl) rfl rfl rfl ?_
  refine LL.val (R.mulcN rfl rfl rfl rfl (by omega)) rfl rfl rfl ?_
  refine LL.val (R.addNc rfl rfl rfl rfl (by omega)) rfl rfl rfl ?_
  refine LL.val (R.assign rfl rfl) rfl rfl rfl ?_
  refine LL.nilS ?_
  refine CC.ret ?_
  refine EE.ret _ rfl rfl ?_
  exact ⟨rfl, rfl⟩
--C slots_cells_many | many_any _ _ _ @w @p | ⟨rfl, @b⟩
theorem many_any (a : Option Addr) (n c : Nat) (w : World) (h : n ≤ 1048576) : Calls Try.prog 60 #[celV (.slice a n c)] w fun e w' => e = .returned (.int .i64 ((n / 2 : Nat) : Int)) ∧ Below w.heap.size w w' := by
  have q := Below.refl w.heap.size w
  refine X.fn Try.func60 rfl (n := 7) rfl rfl ?_
  refine CC.seq ?_
  refine CC.region ?_
  refine LL.box [Value.slice a n c] rfl rfl rfl rfl rfl ?_
  intro W2 g3 eg3 r4 z5 b1
  replace q := q.trans (b1.mono q.size)
  refine LL.val (R.assign rfl rfl) rfl rfl rfl ?_
  refine LL.nilS ?_
  refine CC.seq ?_
  refine CC.region ?_
  refine LL.val (R.field rfl rfl (I.fld rfl)) rfl rfl rfl ?_
  refine LL.val (R.load rfl rfl (I.ld1 rfl (RowL.cell r4 rfl))) rfl rfl rfl ?_
  refine LL.val (R.len rfl rfl rfl rfl) rfl rfl rfl ?_
  refine LL.val (R.quoNc rfl rfl rfl rfl (by omega) (by omega)) rfl rfl rfl ?_
  refine LL.val (R.assign rfl rfl) rfl rfl rfl ?_
  refine LL.nilS ?_
  refine CC.ret ?_
  refine EE.ret _ rfl rfl ?_
  exact ⟨rfl, q⟩
theorem key_any (a : Option Addr) (n c j x : Nat) (s : List Nat) (w : World) (hv : ReadsT uE 1 w (.slice a n c) s) (hn : s.length = n) (h : n ≤ 1048576) (hx : s[2 * j]? = some x) : Calls Try.prog 61 #[celV (.slice a n c), .int .i64 (j : Int)] w fun e w' => e = .returned (.int .u64 (x : Int)) ∧ Below w.heap.size w w' := by
  have q := Below.refl w.heap.size w
  have hj := (List.getElem?_eq_some_iff.1 hx).1
  obtain ⟨b, o, rfl, lb, m1⟩ := u_at hv hx
  refine X.fn Try.func61 rfl (n := 11) rfl rfl ?_
  refine CC.seq ?_
  refine CC.region ?_
  refine LL.box [Value.slice (some { block := b, off := o }) n c] rfl rfl rfl rfl rfl ?_
  intro W2 g3 eg3 r4 z5 b1
  replace q := q.trans (b1.mono q.size)
  replace hv := hv.up b1
  refine LL.val (R.assign rfl rfl) rfl rfl rfl ?_
  refine LL.nilS ?_
  refine CC.seq ?_
  refine CC.grow (by kernel_rfl) (by kernel_rfl) ?_
  refine GG.val (fun w' b' => R.field rfl rfl (I.fld rfl)) rfl rfl ?_
  refine GG.val (fun w' b' => R.load rfl rfl (I.ld1 rfl (RowL.cell (r4.up b') rfl))) rfl rfl ?_
  refine GG.val (fun w' b' => R.move rfl rfl) rfl rfl ?_
  refine GG.call (fun w' => (R.call rfl rfl rfl)) rfl rfl (fun w' b' => (keyWord_any _ w' (by first | assumption | omega)).mono fun e W' h => ⟨h.1, h.2 ▸ b'⟩) ?_
  refine GG.val (fun w' b' => R.index rfl rfl rfl (I.ixS1 rfl (by omega))) rfl rfl ?_
  (refine GG.val (fun w' b' => R.load rfl rfl (I.ld1 rfl (m1 w' (q.trans (b'.mono q.size))))) rfl rfl ?_)
  refine GG.val (fun w' b' => R.assign rfl rfl) rfl rfl ?_
  refine GG.nilQ (fun W10 b9 => ?_)
  have zb9 := b9.size
  replace r4 := r4.up b9
  replace b1 := b1.trans (b9.mono b1.size)
  replace q := q.trans (b9.mono q.size)
  replace hv := hv.up b9
  refine EE.thenN ?_
  refine CC.ret ?_
  refine EE.ret _ rfl rfl ?_
  exact ⟨rfl, q⟩
theorem ptr_any (a : Option Addr) (n c j x : Nat) (s : List Nat) (w : World) (hv : ReadsT uE 1 w (.slice a n c) s) (hn : s.length = n) (h : n ≤ 1048576) (hx : s[2 * j + 1]? = some x) : Calls Try.prog 63 #[celV (.slice a n c), .int .i64 (j : Int)] w fun e w' => e = .returned (.int .u64 (x : Int)) ∧ Below w.heap.size w w' := by
  have q := Below.refl w.heap.size w
  have hj := (List.getElem?_eq_some_iff.1 hx).1
  obtain ⟨b, o, rfl, lb, m1⟩ := u_at hv hx
  refine X.fn Try.func63 rfl (n := 11) rfl rfl ?_
  refine CC.seq ?_
  refine CC.region ?_
  refine LL.box [Value.slice (some { block := b, off := o }) n c] rfl rfl rfl rfl rfl ?_
  intro W2 g3 eg3 r4 z5 b1
  replace q := q.trans (b1.mono q.size)
  replace hv := hv.up b1
  refine LL.val (R.assign rfl rfl) rfl rfl rfl ?_
  refine LL.nilS ?_
  refine CC.seq ?_
  refine CC.grow (by kernel_rfl) (by kernel_rfl) ?_
  refine GG.val (fun w' b' => R.field rfl rfl (I.fld rfl)) rfl rfl ?_
  refine GG.val (fun w' b' => R.load rfl rfl (I.ld1 rfl (RowL.cell (r4.up b') rfl))) rfl rfl ?_
  refine GG.val (fun w' b' => R.move rfl rfl) rfl rfl ?_
  refine GG.call (fun w' => (R.call rfl rfl rfl)) rfl rfl (fun w' b' => (ptrWord_any _ w' (by first | assumption | omega)).mono fun e W' h => ⟨h.1, h.2 ▸ b'⟩) ?_
  refine GG.val (fun w' b' => R.index rfl rfl rfl (I.ixS1 rfl (by omega))) rfl rfl ?_
  (refine GG.val (fun w' b' => R.load rfl rfl (I.ld1 rfl (m1 w' (q.trans (b'.mono q.size))))) rfl rfl ?_)
  refine GG.val (fun w' b' => R.assign rfl rfl) rfl rfl ?_
  refine GG.nilQ (fun W10 b9 => ?_)
  have zb9 := b9.size
  replace r4 := r4.up b9
  replace b1 := b1.trans (b9.mono b1.size)
  replace q := q.trans (b9.mono q.size)
  replace hv := hv.up b9
  refine EE.thenN ?_
  refine CC.ret ?_
  refine EE.ret _ rfl rfl ?_
  exact ⟨rfl, q⟩
--C slots_cells_key | hK @w (q.trans (b'.mono q.size)) | ⟨rfl, @b⟩
--C slots_cells_ptr | hP @w (q.trans (b'.mono q.size)) | ⟨rfl, @b⟩
theorem pair_any (a : Option Addr) (n c j : Nat) (s : List Nat) (w : World) (hv : ReadsT uE 1 w (.slice a n c) s) (hn : s.length = n) (h : n ≤ 1048576) (hj : 2 * j + 1 < n) : Calls Try.prog 76 #[celV (.slice a n c), .int .i64 (j : Int)] w fun e w' => e = .returned (.agg #[.int .u64 (keyN s j : Int), .int .u64 (ptrN s j : Int)]) ∧ Below w.heap.size w w' := by
  have q := Below.refl w.heap.size w
  have hK : ∀ W, Below w.heap.size w W → Calls Try.prog 61 #[celV (.slice a n c), .int .i64 (j : Int)] W fun e w' => e = .returned (.int .u64 (keyN s j : Int)) ∧ Below W.heap.size W w' := fun W b => key_any a n c j _ s W (hv.up b) hn h (keyN_at (by omega))
  have hP : ∀ W, Below w.heap.size w W → Calls Try.prog 63 #[celV (.slice a n c), .int .i64 (j : Int)] W fun e w' => e = .returned (.int .u64 (ptrN s j : Int)) ∧ Below W.heap.size W w' := fun W b => ptr_any a n c j _ s W (hv.up b) hn h (ptrN_at (by omega))
  clear hv
  refine X.fn Try.func76 rfl (n := 12) rfl rfl ?_
  refine CC.seq ?_
  refine CC.region ?_
  refine LL.box [Value.slice a n c] rfl rfl rfl rfl rfl ?_
  intro W2 g3 eg3 r4 z5 b1
  replace q := q.trans (b1.mono q.size)
  have l6 := r4.lt
  refine LL.alloc ([Value.int IntKind.u64 0, Value.int IntKind.u64 0]) rfl rfl rfl rfl rfl ?_
  intro W8 g9 eg9 r10 z11 b7
  replace r4 := r4.up b7
  replace b1 := b1.trans (b7.mono b1.size)
  replace q := q.trans (b7.mono q.size)
  refine LL.nilS ?_
  refine CC.seq ?_
  refine CC.growT 7 (by kernel_rfl) (by kernel_rfl) ?_
  refine GG.val (fun w' b' => R.load rfl rfl (I.ldNc (vs := [Value.slice a n c]) (RowL.cells (r4.up b') rfl) (by rfl) (by rfl))) rfl rfl ?_
  refine GG.val (fun w' b' => R.move rfl rfl) rfl rfl ?_
  refine GG.call (fun w' => (R.call rfl rfl rfl)) rfl rfl (fun w' b' => (hK w' (q.trans (b'.mono q.size))).mono fun e W' h => ⟨h.1, b'.trans (h.2.mono b'.size)⟩) ?_
  refine GG.val (fun w' b' => R.load rfl rfl (I.ldNc (vs := [Value.slice a n c]) (RowL.cells (r4.up b') rfl) (by rfl) (by rfl))) rfl rfl ?_
  refine GG.val (fun w' b' => R.move rfl rfl) rfl rfl ?_
  refine GG.call (fun w' => (R.call rfl rfl rfl)) rfl rfl (fun w' b' => (hP w' (q.trans (b'.mono q.size))).mono fun e W' h => ⟨h.1, b'.trans (h.2.mono b'.size)⟩) ?_
  refine GG.val (fun w' b' => R.buildV rfl rfl (v := .agg #[Value.int IntKind.u64 ↑(keyN s j), Value.int IntKind.u64 ↑(ptrN s j)]) (fun _ => by kernel_rfl)) rfl rfl ?_
  refine GG.nil (fun W16 b15 => ?_)
  have zb15 := b15.size
  replace r10 := r10.up b15
  replace b7 := b7.trans (b15.mono b7.size)
  replace r4 := r4.up b15
  replace b1 := b1.trans (b15.mono b1.size)
  replace q := q.trans (b15.mono q.size)
  refine LL.storeN (vs := [Value.int IntKind.u64 ↑(keyN s j), Value.int IntKind.u64 ↑(ptrN s j)]) rfl rfl rfl rfl r10 (by exact Nat.le_of_ble_eq_true rfl) (ones_of rfl) rfl rfl ?_
  intro W18 r19 b17 z20
  have hlb17 := r10.lt
  replace r19 : RowL W18 _ 46 [Value.int IntKind.u64 ↑(keyN s j), Value.int IntKind.u64 ↑(ptrN s j)] := r19
  clear r10
  replace b7 := b7.grown b17 b7.size (by rintro k ⟨⟩; omega)
  replace r4 := r4.gr b17 (by have := r4.lt; omega)
  replace b1 := b1.grown b17 b1.size (by rintro k ⟨⟩; omega)
  replace q := q.grown b17 q.size (by rintro k ⟨⟩; omega)
  have r10 := r19
  clear r19
  refine LL.nilS ?_
  refine CC.ret ?_
  refine EE.retC rfl rfl (lvNc (RowL.cells0 (by assumption)) (by rfl) (by rfl)) ?_
  exact ⟨rfl, q⟩
--C slots_row_is | is_T _ _ _ _ @w @p | ⟨rfl, @b⟩
theorem is_T (a : Option Addr) (n c left : Nat) (w : World) (h : left ≠ 0 ∧ n % 2 = 0 ∧ 4 ≤ n ∧ n ≤ 56) : Calls Try.prog 51 #[rowV (.slice a n c) left] w fun e w' => e = .returned (.bool true) ∧ Below w.heap.size w w' := by
  have q := Below.refl w.heap.size w
  refine X.fn Try.func51 rfl (n := 26) rfl rfl ?_
  refine CC.seq ?_
  refine CC.region ?_
  refine LL.box [Value.slice a n c, Value.int IntKind.u64 ↑left] rfl rfl rfl rfl rfl ?_
  intro W2 g3 eg3 r4 z5 b1
  replace q := q.trans (b1.mono q.size)
  refine LL.val (R.assign rfl rfl) rfl rfl rfl ?_
  refine LL.nilS ?_
  refine CC.seq ?_
  refine CC.region ?_
  refine LL.val (R.field rfl rfl (I.fld rfl)) rfl rfl rfl ?_
  refine LL.val (R.load rfl rfl (I.ld1 rfl (RowL.cell r4 rfl))) rfl rfl rfl ?_
  refine LL.val (R.neT rfl rfl rfl (by omega)) rfl rfl rfl ?_
  refine LL.val (R.move rfl rfl) rfl rfl rfl ?_
  refine LL.val (R.field rfl rfl (I.fld rfl)) rfl rfl rfl ?_
  refine LL.val (R.field rfl rfl (I.fld rfl)) rfl rfl rfl ?_
  refine LL.val (R.load rfl rfl (I.ld1 rfl (RowL.cell r4 rfl))) rfl rfl rfl ?_
  refine LL.val (R.len rfl rfl rfl rfl) rfl rfl rfl ?_
  refine LL.val (R.remNc rfl rfl rfl rfl (by omega)) rfl rfl rfl ?_
  refine LL.val (R.eqT rfl rfl rfl (by omega)) rfl rfl rfl ?_
  refine LL.val (R.pick rfl rfl rfl) rfl rfl rfl ?_
  refine LL.val (R.move rfl rfl) rfl rfl rfl ?_
  refine LL.val (R.field rfl rfl (I.fld rfl)) rfl rfl rfl ?_
  refine LL.val (R.load rfl rfl (I.ldNc (vs := [Value.slice a n c]) (RowL.cells r4 rfl) (by rfl) (by rfl))) rfl rfl rfl ?_
  refine LL.call (R.call rfl rfl rfl) rfl rfl rfl (many_any _ _ _ _ (by first | assumption | omega)) ?_
  rintro e W7 ⟨rfl, b6⟩
  refine ⟨_, rfl, ?_⟩
  have zb6 := b6.size
  replace r4 := r4.up b6
  replace b1 := b1.trans (b6.mono b1.size)
  replace q := q.trans (b6.mono q.size)
  refine LL.val (R.leT rfl rfl rfl (by omega)) rfl rfl rfl ?_
  refine LL.val (R.pick rfl rfl rfl) rfl rfl rfl ?_
  refine LL.val (R.move rfl rfl) rfl rfl rfl ?_
  refine LL.val (R.field rfl rfl (I.fld rfl)) rfl rfl rfl ?_
  refine LL.val (R.load rfl rfl (I.ldNc (vs := [Value.slice a n c]) (RowL.cells r4 rfl) (by rfl) (by rfl))) rfl rfl rfl ?_
  refine LL.call (R.call rfl rfl rfl) rfl rfl rfl (many_any _ _ _ _ (by first | assumption | omega)) ?_
  rintro e W10 ⟨rfl, b9⟩
  refine ⟨_, rfl, ?_⟩
  have zb9 := b9.size
  replace b6 := b6.trans (b9.mono b6.size)
  replace r4 := r4.up b9
  replace b1 := b1.trans (b9.mono b1.size)
  replace q := q.trans (b9.mono q.size)
  refine LL.val (R.leT rfl rfl rfl (by omega)) rfl rfl rfl ?_
  refine LL.val (R.pick rfl rfl rfl) rfl rfl rfl ?_
  refine LL.val (R.assign rfl rfl) rfl rfl rfl ?_
  refine LL.nilS ?_
  refine CC.ret ?_
  refine EE.ret _ rfl rfl ?_
  exact ⟨rfl, q⟩
/-- No row. -/
def noRow (left n : Nat) : Prop := ¬ (left ≠ 0 ∧ n % 2 = 0 ∧ 4 ≤ n ∧ n ≤ 56)
theorem is_F (a : Option Addr) (n c left : Nat) (w : World) (h : noRow left n) (hn : n ≤ 1048576) : Calls Try.prog 51 #[rowV (.slice a n c) left] w fun e w' => e = .returned (.bool false) ∧ Below w.heap.size w w' := by
  have q := Below.refl w.heap.size w
  have h2 : left = 0 ∨ n % 2 ≠ 0 ∨ n < 4 ∨ 56 < n := by
    unfold noRow at h
    omega
  clear h
  refine X.fn Try.func51 rfl (n := 26) rfl rfl ?_
  refine CC.seq ?_
  refine CC.region ?_
  refine LL.box [Value.slice a n c, Value.int IntKind.u64 ↑left] rfl rfl rfl rfl rfl ?_
  intro W2 g3 eg3 r4 z5 b1
  replace q := q.trans (b1.mono q.size)
  refine LL.val (R.assign rfl rfl) rfl rfl rfl ?_
  refine LL.nilS ?_
  refine CC.seq ?_
  refine CC.region ?_
  refine LL.val (R.field rfl rfl (I.fld rfl)) rfl rfl rfl ?_
  refine LL.val (R.load rfl rfl (I.ld1 rfl (RowL.cell r4 rfl))) rfl rfl rfl ?_
  refine LL.vsplit (fun h => R.neT rfl rfl rfl h) (fun h => R.neF rfl rfl rfl (Decidable.not_not.1 h)) rfl rfl rfl (fun c6 => ?_) (fun c6 => ?_)
  refine LL.val (R.move rfl rfl) rfl rfl rfl ?_
  refine LL.val (R.field rfl rfl (I.fld rfl)) rfl rfl rfl ?_
  refine LL.val (R.field rfl rfl (I.fld rfl)) rfl rfl rfl ?_
  refine LL.val (R.load rfl rfl (I.ld1 rfl (RowL.cell r4 rfl))) rfl rfl rfl ?_
  refine LL.val (R.len rfl rfl rfl rfl) rfl rfl rfl ?_
  refine LL.val (R.remNc rfl rfl rfl rfl (by omega)) rfl rfl rfl ?_
  refine LL.vsplit (fun h => R.eqT rfl rfl rfl h) (fun h => R.eqF rfl rfl rfl h) rfl rfl rfl (fun c7 => ?_) (fun c7 => ?_)
  refine LL.val (R.pick rfl rfl rfl) rfl rfl rfl ?_
  refine LL.val (R.move rfl rfl) rfl rfl rfl ?_
  refine LL.val (R.field rfl rfl (I.fld rfl)) rfl rfl rfl ?_
  refine LL.val (R.load rfl rfl (I.ldNc (vs := [Value.slice a n c]) (RowL.cells r4 rfl) (by rfl) (by rfl))) rfl rfl rfl ?_
  refine LL.call (R.call rfl rfl rfl) rfl rfl rfl (many_any _ _ _ _ (by first | assumption | omega)) ?_
  rintro e W9 ⟨rfl, b8⟩
  refine ⟨_, rfl, ?_⟩
  have zb8 := b8.size
  replace r4 := r4.up b8
  replace b1 := b1.trans (b8.mono b1.size)
  replace q := q.trans (b8.mono q.size)
  refine LL.vsplit (fun h => R.leT rfl rfl rfl h) (fun h => R.leF rfl rfl rfl (Int.not_le.1 h)) rfl rfl rfl (fun c11 => ?_) (fun c11 => ?_)
  refine LL.val (R.pick rfl rfl rfl) rfl rfl rfl ?_
  refine LL.val (R.move rfl rfl) rfl rfl rfl ?_
  refine LL.val (R.field rfl rfl (I.fld rfl)) rfl rfl rfl ?_
  refine LL.val (R.load rfl rfl (I.ldNc (vs := [Value.slice a n c]) (RowL.cells r4 rfl) (by rfl) (by rfl))) rfl rfl rfl ?_
  refine LL.call (R.call rfl rfl rfl) rfl rfl rfl (many_any _ _ _ _ (by first | assumption | omega)) ?_
  rintro e W13 ⟨rfl, b12⟩
  refine ⟨_, rfl, ?_⟩
  have zb12 := b12.size
  replace b8 := b8.trans (b12.mono b8.size)
  replace r4 := r4.up b12
  replace b1 := b1.trans (b12.mono b1.size)
  replace q := q.trans (b12.mono q.size)
  refine LL.val (R.leF rfl rfl rfl (by omega)) rfl rfl rfl ?_
  refine LL.val (R.pick rfl rfl rfl) rfl rfl rfl ?_
  refine LL.val (R.assign rfl rfl) rfl rfl rfl ?_
  refine LL.nilS ?_
  refine CC.ret ?_
  refine EE.ret _ rfl rfl ?_
  exact ⟨rfl, q⟩
  refine LL.val (R.pick rfl rfl rfl) rfl rfl rfl ?_
  refine LL.val (R.move rfl rfl) rfl rfl rfl ?_
  refine LL.skip rfl rfl ?_
  refine LL.skip rfl rfl ?_
  refine LL.skip rfl rfl ?_
  refine LL.skip rfl rfl ?_
  refine LL.val (R.pick rfl rfl rfl) rfl rfl rfl ?_
  refine LL.val (R.assign rfl rfl) rfl rfl rfl ?_
  refine LL.nilS ?_
  refine CC.ret ?_
  refine EE.ret _ rfl rfl ?_
  exact ⟨rfl, q⟩
  refine LL.val (R.pick rfl rfl rfl) rfl rfl rfl ?_
  refine LL.val (R.move rfl rfl) rfl rfl rfl ?_
  refine LL.skip rfl rfl ?_
  refine LL.skip rfl rfl ?_
  refine LL.skip rfl rfl ?_
  refine LL.skip rfl rfl ?_
  refine LL.val (R.pick rfl rfl rfl) rfl rfl rfl ?_
  refine LL.val (R.move rfl rfl) rfl rfl rfl ?_
  refine LL.skip rfl rfl ?_
  refine LL.skip rfl rfl ?_
  refine LL.skip rfl rfl ?_
  refine LL.skip rfl rfl ?_
  refine LL.val (R.pick rfl rfl rfl) rfl rfl rfl ?_
  refine LL.val (R.assign rfl rfl) rfl rfl rfl ?_
  refine LL.nilS ?_
  refine CC.ret ?_
  refine EE.ret _ rfl rfl ?_
  exact ⟨rfl, q⟩
  refine LL.val (R.move rfl rfl) rfl rfl rfl ?_
  refine LL.skip rfl rfl ?_
  refine LL.skip rfl rfl ?_
  refine LL.skip rfl rfl ?_
  refine LL.skip rfl rfl ?_
  refine LL.skip rfl rfl ?_
  refine LL.skip rfl rfl ?_
  refine LL.val (R.pick rfl rfl rfl) rfl rfl rfl ?_
  refine LL.val (R.move rfl rfl) rfl rfl rfl ?_
  refine LL.skip rfl rfl ?_
  refine LL.skip rfl rfl ?_
  refine LL.skip rfl rfl ?_
  refine LL.skip rfl rfl ?_
  refine LL.val (R.pick rfl rfl rfl) rfl rfl rfl ?_
  refine LL.val (R.move rfl rfl) rfl rfl rfl ?_
  refine LL.skip rfl rfl ?_
  refine LL.skip rfl rfl ?_
  refine LL.skip rfl rfl ?_
  refine LL.skip rfl rfl ?_
  refine LL.val (R.pick rfl rfl rfl) rfl rfl rfl ?_
  refine LL.val (R.assign rfl rfl) rfl rfl rfl ?_
  refine LL.nilS ?_
  refine CC.ret ?_
  refine EE.ret _ rfl rfl ?_
  exact ⟨rfl, q⟩
--C slots_cells_ptr | hP @w q | ⟨rfl, @b⟩
theorem ahead_any (a : Option Addr) (n c left j : Nat) (s : List Nat) (w : World) (hv : ReadsT uE 1 w (.slice a n c) s) (hn : s.length = n) (h : n ≤ 1048576) (hj : j ≤ n / 2) : Calls Try.prog 65 #[rowV (.slice a n c) left, .int .i64 (j : Int)] w fun e w' => e = .returned (.int .u64 (aheadN left s j : Int)) ∧ Below w.heap.size w w' := by
  have q := Below.refl w.heap.size w
  unfold aheadN
  by_cases h0 : j = 0
  · subst h0
    rw [if_pos rfl]
    refine X.fn Try.func65 rfl (n := 14) rfl rfl ?_
    refine CC.seq ?_
    refine CC.region ?_
    refine LL.box [Value.slice a n c, Value.int IntKind.u64 ↑left] rfl rfl rfl rfl rfl ?_
    intro W2 g3 eg3 r4 z5 b1
    replace hv := hv.up b1
    replace q := q.trans (b1.mono q.size)
    refine LL.val (R.assign rfl rfl) rfl rfl rfl ?_
    refine LL.nilS ?_
    refine CC.seq ?_
    refine CC.seq ?_
    refine CC.region ?_
    refine LL.val (R.move rfl rfl) rfl rfl rfl ?_
    refine LL.val (R.eqT rfl rfl rfl (by omega)) rfl rfl rfl ?_
    refine LL.nilS ?_
    refine CC.yes rfl ?_
    refine CC.seq ?_
    refine CC.region ?_
    refine LL.val (R.field rfl rfl (I.fld rfl)) rfl rfl rfl ?_
    refine LL.val (R.load rfl rfl (I.ld1 rfl (RowL.cell r4 rfl))) rfl rfl rfl ?_
    refine LL.val (R.assign rfl rfl) rfl rfl rfl ?_
    refine LL.nilS ?_
    refine CC.ret ?_
    refine EE.thenR ?_
    refine EE.ret _ rfl rfl ?_
    exact ⟨rfl, q⟩
  · rw [if_neg h0]
    obtain ⟨i, rfl⟩ : ∃ i, j = i + 1 := ⟨j - 1, by omega⟩
    have hP : ∀ W, Below w.heap.size w W → Calls Try.prog 63 #[celV (.slice a n c), .int .i64 ((i + 1 - 1 : Nat) : Int)] W fun e w' => e = .returned (.int .u64 (ptrN s (i + 1 - 1) : Int)) ∧ Below W.heap.size W w' := fun W b => ptr_any a n c (i + 1 - 1) _ s W (hv.up b) hn h (ptrN_at (by omega))
    clear hv
    refine X.fn Try.func65 rfl (n := 14) rfl rfl ?_
    refine CC.seq ?_
    refine CC.region ?_
    refine LL.box [Value.slice a n c, Value.int IntKind.u64 ↑left] rfl rfl rfl rfl rfl ?_
    intro Wa2 ga3 ega3 ra4 za5 ba1
    replace q := q.trans (ba1.mono q.size)
    refine LL.val (R.assign rfl rfl) rfl rfl rfl ?_
    refine LL.nilS ?_
    refine CC.seq ?_
    refine CC.seq ?_
    refine CC.region ?_
    refine LL.val (R.move rfl rfl) rfl rfl rfl ?_
    refine LL.val (R.eqF rfl rfl rfl (by omega)) rfl rfl rfl ?_
    refine LL.nilS ?_
    refine CC.no rfl ?_
    refine CC.skip ?_
    refine EE.thenN ?_
    refine CC.seq ?_
    refine CC.region ?_
    refine LL.val (R.field rfl rfl (I.fld rfl)) rfl rfl rfl ?_
    refine LL.val (R.load rfl rfl (I.ldNc (vs := [Value.slice a n c]) (RowL.cells ra4 rfl) (by rfl) (by rfl))) rfl rfl rfl ?_
    refine LL.val (R.move rfl rfl) rfl rfl rfl ?_
    refine LL.val (R.subNc rfl rfl rfl rfl (by omega) (by omega)) rfl rfl rfl ?_
    refine LL.call (R.call rfl rfl rfl) rfl rfl rfl (hP _ q) ?_
    rintro e Wa7 ⟨rfl, ba6⟩
    refine ⟨_, rfl, ?_⟩
    have zba6 := ba6.size
    replace ra4 := ra4.up ba6
    replace ba1 := ba1.trans (ba6.mono ba1.size)
    replace q := q.trans (ba6.mono q.size)
    refine LL.val (R.assign rfl rfl) rfl rfl rfl ?_
    refine LL.nilS ?_
    refine CC.ret ?_
    refine EE.ret _ rfl rfl ?_
    exact ⟨rfl, q⟩
theorem among_any (x : Nat) (a : Option Addr) (n c : Nat) (s : List Nat) (w : World) (hv : ReadsT uE 1 w (.slice a n c) s) (hn : s.length = n) (h : n ≤ 1048576) : Calls Try.prog 81 #[.int .u64 (x : Int), .slice a n c] w fun e w' => e = .returned (.bool (decide (x ∈ s))) ∧ w = w' := by
  refine X.fn Try.func81 rfl (n := 17) rfl rfl ?_
  refine CC.seq ?_
  refine CC.region ?_
  refine LL.val (R.assign rfl rfl) rfl rfl rfl ?_
  refine LL.nilS ?_
  refine CC.seq ?_
  refine CC.seq ?_
  refine CC.region ?_
  refine LL.val (R.move rfl rfl) rfl rfl rfl ?_
  refine LL.val (R.len rfl rfl rfl rfl) rfl rfl rfl ?_
  refine LL.val (R.move rfl rfl) rfl rfl rfl ?_
  refine LL.nilS ?_
  refine CC.block ?_
  refine CC.loop (α := Nat) (fun i => [(0, .int .u64 (x : Int)), (7, .slice a n c), (8, .int .i64 (n : Int)), (9, .int .i64 (i : Int))]) (fun i W => i ≤ n ∧ w = W ∧ x ∉ s.take i) (fun i => n - i) 0 ⟨rfl, rfl, rfl, rfl, trivial⟩ ⟨by show 0 ≤ n; omega, rfl, by simp⟩ ?_
  rintro i W ⟨hi, rfl, ht⟩
  show CC none Try.prog _ 17 [] (sl [(0, .int .u64 (x : Int)), (7, .slice a n c), (8, .int .i64 (n : Int)), (9, .int .i64 (i : Int))]) _ w
  by_cases hlt : i < n
  case neg =>
    obtain rfl : i = n := by omega
    rw [List.take_of_length_le (by omega)] at ht
    rw [decide_eq_false ht]
    refine CC.seq ?_
    refine CC.region ?_
    refine LL.val (R.ltF rfl rfl rfl (by omega)) rfl rfl rfl ?_
    refine LL.nilS ?_
    refine CC.seq ?_
    refine CC.no rfl ?_
    refine CC.exit ?_
    refine EE.thenX ?_
    refine EE.thenX ?_
    refine EE.inX ?_
    refine EE.thenN ?_
    refine CC.seq ?_
    refine CC.region ?_
    refine LL.val (R.assign rfl rfl) rfl rfl rfl ?_
    refine LL.nilS ?_
    refine CC.ret ?_
    refine EE.ret _ rfl rfl ?_
    exact ⟨rfl, rfl⟩
  obtain ⟨y, hy⟩ : ∃ y, s[i]? = some y := ⟨_, List.getElem?_eq_getElem (by omega)⟩
  obtain ⟨b, o, rfl, lb, m1⟩ := u_at hv hy
  have c1 := m1 w (Below.refl _ _)
  by_cases hxy : x = y
  · subst hxy
    rw [decide_eq_true (List.mem_of_getElem? hy)]
    refine CC.seq ?_
    refine CC.region ?_
    refine LL.val (R.ltT rfl rfl rfl (by omega)) rfl rfl rfl ?_
    refine LL.nilS ?_
    refine CC.seq ?_
    refine CC.yes rfl ?_
    refine CC.skip ?_
    refine EE.thenN ?_
    refine CC.seq ?_
    refine CC.block ?_
    refine CC.seq ?_
    refine CC.region ?_
    refine LL.val (R.index rfl rfl rfl (I.ixS1 rfl (by omega))) rfl rfl rfl ?_
    refine LL.val (R.load rfl rfl (I.ld1 rfl (by assumption))) rfl rfl rfl ?_
    refine LL.val (R.assign rfl rfl) rfl rfl rfl ?_
    refine LL.nilS ?_
    refine CC.seq ?_
    refine CC.region ?_
    refine LL.val (R.move rfl rfl) rfl rfl rfl ?_
    refine LL.val (R.move rfl rfl) rfl rfl rfl ?_
    refine LL.val (R.eqT rfl rfl rfl (by omega)) rfl rfl rfl ?_
    refine LL.nilS ?_
    refine CC.yes rfl ?_
    refine CC.seq ?_
    refine CC.region ?_
    refine LL.val (R.assign rfl rfl) rfl rfl rfl ?_
    refine LL.nilS ?_
    refine CC.ret ?_
    refine EE.inR ?_
    refine EE.thenR ?_
    refine EE.thenR ?_
    refine EE.inR ?_
    refine EE.thenR ?_
    refine EE.ret _ rfl rfl ?_
    exact ⟨rfl, rfl⟩
  · refine CC.seq ?_
    refine CC.region ?_
    refine LL.val (R.ltT rfl rfl rfl (by omega)) rfl rfl rfl ?_
    refine LL.nilS ?_
    refine CC.seq ?_
    refine CC.yes rfl ?_
    refine CC.skip ?_
    refine EE.thenN ?_
    refine CC.seq ?_
    refine CC.block ?_
    refine CC.seq ?_
    refine CC.region ?_
    refine LL.val (R.index rfl rfl rfl (I.ixS1 rfl (by omega))) rfl rfl rfl ?_
    refine LL.val (R.load rfl rfl (I.ld1 rfl (by assumption))) rfl rfl rfl ?_
    refine LL.val (R.assign rfl rfl) rfl rfl rfl ?_
    refine LL.nilS ?_
    refine CC.seq ?_
    refine CC.region ?_
    refine LL.val (R.move rfl rfl) rfl rfl rfl ?_
    refine LL.val (R.move rfl rfl) rfl rfl rfl ?_
    refine LL.val (R.eqF rfl rfl rfl (by omega)) rfl rfl rfl ?_
    refine LL.nilS ?_
    refine CC.no rfl ?_
    refine CC.skip ?_
    refine EE.inN ?_
    refine EE.thenN ?_
    refine CC.region ?_
    refine LL.val (R.addNc rfl rfl rfl rfl (by omega)) rfl rfl rfl ?_
    refine LL.val (R.move rfl rfl) rfl rfl rfl ?_
    refine LL.nil ?_
    exact EE.round (i + 1) ⟨rfl, rfl, rfl, rfl, trivial⟩ ⟨by show i + 1 ≤ n; omega, rfl, by rw [List.take_add_one, hy]; simp [hxy, ht]⟩ (by show n - (i + 1) < n - i; omega)
/-- How many slots are gone over. -/
def overN (s : List Nat) : Nat := ((List.range (s.length / 2)).takeWhile fun j => decide (ptrN s j ≠ 0)).length
theorem tw_all {α : Type} {p : α → Bool} : ∀ {l : List α}, (∀ x ∈ l, p x = true) → l.takeWhile p = l
  | [], _ => rfl
  | x :: l, h => by
    rw [List.takeWhile_cons, h x (List.mem_cons_self ..)]
    simp only [if_true]
    rw [tw_all fun y hy => h y (List.mem_cons_of_mem _ hy)]
theorem tw_len {p : Nat → Bool} : ∀ (n m : Nat), m ≤ n → (∀ i, i < m → p i = true) → (m = n ∨ p m = false) → ((List.range n).takeWhile p).length = m := by
  intro n
  induction n with
  | zero => intro m h _ _; simp; omega
  | succ n ih =>
    intro m h1 h2 h3
    rw [List.range_succ]
    by_cases hm : m = n + 1
    · subst hm
      have : (List.range n).takeWhile p = List.range n := tw_all fun x hx => h2 x (by have := List.mem_range.1 hx; omega)
      rw [List.takeWhile_append, this, if_pos rfl]
      simp [h2 n (by omega)]
    · have hp : p m = false := h3.resolve_left hm
      have hl := ih m (by omega) h2 (by by_cases e : m = n; exact .inl e; exact .inr hp)
      rw [List.takeWhile_append]
      by_cases e : m = n
      · subst e
        rw [if_pos (by rw [hl, List.length_range]), List.takeWhile_cons, hp]
        simp
      · rw [if_neg (by rw [hl, List.length_range]; exact e)]
        exact hl
theorem over_eq {s : List Nat} {m : Nat} (h1 : m ≤ s.length / 2) (h2 : ∀ i, i < m → ptrN s i ≠ 0) (h3 : m = s.length / 2 ∨ ptrN s m = 0) : overN s = m :=
  tw_len _ _ h1 (fun i hi => by simpa using h2 i hi) (h3.imp_right fun h => by simpa using h)
theorem over_ex (s : List Nat) : ∃ m, m ≤ s.length / 2 ∧ (∀ i, i < m → ptrN s i ≠ 0) ∧ (m = s.length / 2 ∨ ptrN s m = 0) := by
  have key : ∀ n, ∃ m, m ≤ n ∧ (∀ i, i < m → ptrN s i ≠ 0) ∧ (m = n ∨ ptrN s m = 0) := by
    intro n
    induction n with
    | zero => exact ⟨0, Nat.le_refl _, fun i h => by omega, .inl rfl⟩
    | succ n ih =>
      obtain ⟨m, h1, h2, h3⟩ := ih
      rcases h3 with rfl | h3
      · by_cases hp : ptrN s m = 0
        · exact ⟨m, by omega, h2, .inr hp⟩
        · exact ⟨m + 1, by omega, fun i hi => by
            by_cases e : i = m
            · subst e; exact hp
            · exact h2 i (by omega), .inl rfl⟩
      · exact ⟨m, by omega, h2, .inr h3⟩
  exact key _
theorem over_le (s : List Nat) : overN s ≤ s.length / 2 := by
  obtain ⟨m, h1, h2, h3⟩ := over_ex s
  rw [over_eq h1 h2 h3]
  exact h1
theorem over_ne {s : List Nat} {i : Nat} (h : i < overN s) : ptrN s i ≠ 0 := by
  obtain ⟨m, h1, h2, h3⟩ := over_ex s
  rw [over_eq h1 h2 h3] at h
  exact h2 i h
theorem over_any (a : Option Addr) (n c left : Nat) (s : List Nat) (w : World) (hv : ReadsT uE 1 w (.slice a n c) s) (hn : s.length = n) (h : n ≤ 1048576) : Calls Try.prog 59 #[rowV (.slice a n c) left] w fun e w' => e = .returned (.int .i64 (overN s : Int)) ∧ Below w.heap.size w w' := by
  have q := Below.refl w.heap.size w
  have hP : ∀ i, 2 * i + 1 < n → ∀ W, Below w.heap.size w W → Calls Try.prog 63 #[celV (.slice a n c), .int .i64 (i : Int)] W fun e w' => e = .returned (.int .u64 (ptrN s i : Int)) ∧ Below W.heap.size W w' := fun i hi W b => ptr_any a n c i _ s W (hv.up b) hn h (ptrN_at (by omega))
  refine X.fn Try.func59 rfl (n := 19) rfl rfl ?_
  refine CC.seq ?_
  refine CC.region ?_
  refine LL.box [Value.slice a n c, Value.int IntKind.u64 ↑left] rfl rfl rfl rfl rfl ?_
  intro W2 g3 eg3 r4 z5 b1
  replace hv := hv.up b1
  replace q := q.trans (b1.mono q.size)
  refine LL.val (R.assign rfl rfl) rfl rfl rfl ?_
  refine LL.nilS ?_
  refine CC.seq ?_
  refine CC.region ?_
  refine LL.val (R.assign rfl rfl) rfl rfl rfl ?_
  refine LL.nilS ?_
  refine CC.seq ?_
  refine CC.block ?_
  have yq := q.size
  refine CC.loop (α := Nat) (fun i => [(1, .pointer (some ⟨g3, 0, none⟩)), (3, .int .i64 (i : Int))]) (fun i W => i ≤ n / 2 ∧ Below w.heap.size w W ∧ RowL W g3 96 [.slice a n c, .int .u64 (left : Int)] ∧ ∀ j, j < i → ptrN s j ≠ 0) (fun i => n / 2 - i) 0 ⟨rfl, rfl, trivial⟩ ⟨by show 0 ≤ n / 2; omega, q, r4, fun j h => by omega⟩ ?_
  clear q r4
  rintro i W ⟨hi, q, r4, hs⟩
  have yq := q.size
  show CC none Try.prog _ 19 [] (sl [(1, .pointer (some ⟨g3, 0, none⟩)), (3, .int .i64 (i : Int))]) _ W
  by_cases hlt : i < n / 2
  case neg =>
    obtain rfl : i = n / 2 := by omega
    rw [over_eq (s := s) (m := n / 2) (by omega) hs (.inl (by omega))]
    refine CC.seq ?_
    refine CC.seq ?_
    refine CC.region ?_
    refine LL.val (R.move rfl rfl) rfl rfl rfl ?_
    refine LL.val (R.field rfl rfl (I.fld rfl)) rfl rfl rfl ?_
    refine LL.val (R.load rfl rfl (I.ldNc (vs := [Value.slice a n c]) (RowL.cells r4 rfl) (by rfl) (by rfl))) rfl rfl rfl ?_
    refine LL.call (R.call rfl rfl rfl) rfl rfl rfl (many_any _ _ _ _ (by first | assumption | omega)) ?_
    rintro e Wa2 ⟨rfl, ba1⟩
    refine ⟨_, rfl, ?_⟩
    have zba1 := ba1.size
    replace q := q.trans (ba1.mono q.size)
    replace r4 := r4.up ba1
    refine LL.val (R.ltF rfl rfl rfl (by omega)) rfl rfl rfl ?_
    refine LL.val (R.move rfl rfl) rfl rfl rfl ?_
    refine LL.skip rfl rfl ?_
    refine LL.skip rfl rfl ?_
    refine LL.skip rfl rfl ?_
    refine LL.skip rfl rfl ?_
    refine LL.skip rfl rfl ?_
    refine LL.val (R.pick rfl rfl rfl) rfl rfl rfl ?_
    refine LL.nilS ?_
    refine CC.no rfl ?_
    refine CC.exit ?_
    refine EE.thenX ?_
    refine EE.thenX ?_
    refine EE.inX ?_
    refine EE.thenN ?_
    refine CC.seq ?_
    refine CC.region ?_
    refine LL.val (R.move rfl rfl) rfl rfl rfl ?_
    refine LL.val (R.assign rfl rfl) rfl rfl rfl ?_
    refine LL.nilS ?_
    refine CC.ret ?_
    refine EE.ret _ rfl rfl ?_
    exact ⟨rfl, q⟩
  by_cases hp : ptrN s i = 0
  · rw [over_eq (s := s) (m := i) (by omega) hs (.inr hp)]
    refine CC.seq ?_
    refine CC.seq ?_
    refine CC.region ?_
    refine LL.val (R.move rfl rfl) rfl rfl rfl ?_
    refine LL.val (R.field rfl rfl (I.fld rfl)) rfl rfl rfl ?_
    refine LL.val (R.load rfl rfl (I.ldNc (vs := [Value.slice a n c]) (RowL.cells r4 rfl) (by rfl) (by rfl))) rfl rfl rfl ?_
    refine LL.call (R.call rfl rfl rfl) rfl rfl rfl (many_any _ _ _ _ (by first | assumption | omega)) ?_
    rintro e Wb2 ⟨rfl, bb1⟩
    refine ⟨_, rfl, ?_⟩
    have zbb1 := bb1.size
    replace q := q.trans (bb1.mono q.size)
    replace r4 := r4.up bb1
    refine LL.val (R.ltT rfl rfl rfl (by omega)) rfl rfl rfl ?_
    refine LL.val (R.move rfl rfl) rfl rfl rfl ?_
    refine LL.val (R.field rfl rfl (I.fld rfl)) rfl rfl rfl ?_
    refine LL.val (R.load rfl rfl (I.ldNc (vs := [Value.slice a n c]) (RowL.cells r4 rfl) (by rfl) (by rfl))) rfl rfl rfl ?_
    refine LL.val (R.move rfl rfl) rfl rfl rfl ?_
    refine LL.call (R.call rfl rfl rfl) rfl rfl rfl (hP _ (by first | assumption | omega) _ q) ?_
    rintro e Wb5 ⟨rfl, bb4⟩
    refine ⟨_, rfl, ?_⟩
    have zbb4 := bb4.size
    replace bb1 := bb1.trans (bb4.mono bb1.size)
    replace q := q.trans (bb4.mono q.size)
    replace r4 := r4.up bb4
    refine LL.val (R.neF rfl rfl rfl (by omega)) rfl rfl rfl ?_
    refine LL.val (R.pick rfl rfl rfl) rfl rfl rfl ?_
    refine LL.nilS ?_
    refine CC.no rfl ?_
    refine CC.exit ?_
    refine EE.thenX ?_
    refine EE.thenX ?_
    refine EE.inX ?_
    refine EE.thenN ?_
    refine CC.seq ?_
    refine CC.region ?_
    refine LL.val (R.move rfl rfl) rfl rfl rfl ?_
    refine LL.val (R.assign rfl rfl) rfl rfl rfl ?_
    refine LL.nilS ?_
    refine CC.ret ?_
    refine EE.ret _ rfl rfl ?_
    exact ⟨rfl, q⟩
  · have hs' : ∀ j, j < i + 1 → ptrN s j ≠ 0 := fun j hj => by
      by_cases e : j = i
      · subst e; exact hp
      · exact hs j (by omega)
    clear hs
    refine CC.seq ?_
    refine CC.seq ?_
    refine CC.region ?_
    refine LL.val (R.move rfl rfl) rfl rfl rfl ?_
    refine LL.val (R.field rfl rfl (I.fld rfl)) rfl rfl rfl ?_
    refine LL.val (R.load rfl rfl (I.ldNc (vs := [Value.slice a n c]) (RowL.cells r4 rfl) (by rfl) (by rfl))) rfl rfl rfl ?_
    refine LL.call (R.call rfl rfl rfl) rfl rfl rfl (many_any _ _ _ _ (by first | assumption | omega)) ?_
    rintro e Wc2 ⟨rfl, bc1⟩
    refine ⟨_, rfl, ?_⟩
    have zbc1 := bc1.size
    replace q := q.trans (bc1.mono q.size)
    replace r4 := r4.up bc1
    refine LL.val (R.ltT rfl rfl rfl (by omega)) rfl rfl rfl ?_
    refine LL.val (R.move rfl rfl) rfl rfl rfl ?_
    refine LL.val (R.field rfl rfl (I.fld rfl)) rfl rfl rfl ?_
    refine LL.val (R.load rfl rfl (I.ldNc (vs := [Value.slice a n c]) (RowL.cells r4 rfl) (by rfl) (by rfl))) rfl rfl rfl ?_
    refine LL.val (R.move rfl rfl) rfl rfl rfl ?_
    refine LL.call (R.call rfl rfl rfl) rfl rfl rfl (hP _ (by first | assumption | omega) _ q) ?_
    rintro e Wc5 ⟨rfl, bc4⟩
    refine ⟨_, rfl, ?_⟩
    have zbc4 := bc4.size
    replace bc1 := bc1.trans (bc4.mono bc1.size)
    replace q := q.trans (bc4.mono q.size)
    replace r4 := r4.up bc4
    refine LL.val (R.neT rfl rfl rfl (by omega)) rfl rfl rfl ?_
    refine LL.val (R.pick rfl rfl rfl) rfl rfl rfl ?_
    refine LL.nilS ?_
    refine CC.yes rfl ?_
    refine CC.skip ?_
    refine EE.thenN ?_
    refine CC.block ?_
    refine CC.region ?_
    refine LL.val (R.move rfl rfl) rfl rfl rfl ?_
    refine LL.val (R.addNc rfl rfl rfl rfl (by omega)) rfl rfl rfl ?_
    refine LL.val (R.assign rfl rfl) rfl rfl rfl ?_
    refine LL.nil ?_
    refine EE.inN ?_
    exact EE.round (i + 1) ⟨rfl, rfl, trivial⟩ ⟨by show i + 1 ≤ n / 2; omega, q, r4, hs'⟩ (by show n / 2 - (i + 1) < n / 2 - i; omega)
end Go.Proofs.Ytfplilpefhhpnaa
/- slots: the pairs that are read, one by one. -/
namespace Go.Proofs.Ytfplilpefhhpnaa
set_option linter.unusedVariables false
set_option linter.unusedSimpArgs false
open Go.RowKit Go.Shelf
/-- A pair: its key, its pointer. -/
abbrev Pr := Nat × Nat
def prE (p : Pr) : List Value := [.int .u64 (p.1 : Int), .int .u64 (p.2 : Int)]
theorem prEnc : Enc prE 2 := ⟨fun _ => rfl, fun t u hu => by
  simp only [prE, List.mem_cons, List.not_mem_nil, or_false] at hu
  rcases hu with rfl | rfl <;> rfl, by decide⟩
def spE (x : Nat × Pr) : List Value := [.int .i64 (x.1 : Int), .agg (prE x.2).toArray]
def prA (s : List Nat) (j : Nat) : Pr := (keyN s j, ptrN s j)
/-- The pairs that are read of the first slots, each with its slot. -/
def pairF (left : Nat) (s : List Nat) : Nat → List (Nat × Pr)
  | 0 => []
  | j + 1 => if ptrN s j = aheadN left s j then pairF left s j else pairF left s j ++ [(j, prA s j)]
def pairS (left : Nat) (s : List Nat) : List (Nat × Pr) := pairF left s (overN s)
def pairP (left : Nat) (s : List Nat) : List Pr := (pairS left s).map (·.2)
theorem pairF_succ (left : Nat) (s : List Nat) (j : Nat) : pairF left s (j + 1) = if ptrN s j = aheadN left s j then pairF left s j else pairF left s j ++ [(j, prA s j)] := rfl
theorem pairF_pre (left : Nat) (s : List Nat) (j k : Nat) (h : j ≤ k) : pairF left s j <+: pairF left s k := by
  induction k with
  | zero =>
    obtain rfl : j = 0 := by omega
    exact List.prefix_refl _
  | succ k ih =>
    by_cases e : j = k + 1
    · subst e; exact List.prefix_refl _
    · refine (ih (by omega)).trans ?_
      rw [pairF_succ left s k]
      split
      · exact List.prefix_refl _
      · exact List.prefix_append _ _
theorem pairF_len (left : Nat) (s : List Nat) (j : Nat) : (pairF left s j).length ≤ j := by
  induction j with
  | zero => simp [pairF]
  | succ j ih =>
    rw [pairF_succ]
    split
    · omega
    · simp; omega
theorem pairS_len (left : Nat) (s : List Nat) : (pairS left s).length ≤ s.length / 2 := Nat.le_trans (pairF_len _ _ _) (over_le s)
set_option maxRecDepth 100000
set_option maxHeartbeats 4000000
theorem ReadsT.keepB {w w' : World} {a : Option Addr} {n c bkl : Nat} {s : List Nat} {D : Nat → Prop} (h : ReadsT uE 1 w (.slice a n c) s) (hs : w.heap.size ≤ w'.heap.size) (hk : Keeps D w w') (hbl : ∀ b off, a = some ⟨b, off, none⟩ → 0 < n → b = bkl) (hD : D bkl) : ReadsT uE 1 w' (.slice a n c) s := by
  obtain ⟨a', cap, e, hc, h'⟩ := h
  cases e
  refine ⟨_, _, rfl, hc, fun hne => ?_⟩
  obtain ⟨b, off, ha, hb, hcell⟩ := h' hne
  refine ⟨b, off, ha, Nat.lt_of_lt_of_le hb hs, fun j hj => ?_⟩
  obtain rfl := hbl b off ha (List.length_pos_iff.2 hne)
  exact (World.cell?_of_block (hk.same b hD)).trans (hcell j hj)
theorem each1_gives (bk bkl : Nat) (a : Option Addr) (n c left : Nat) (s : List Nat) (w : World) (hb : RowL w bk 96 [.slice a n c, .int .u64 (left : Int)]) (hv : ReadsT uE 1 w (.slice a n c) s) (hn : s.length = n) (h : n ≤ 1048576) (hbl : ∀ b off, a = some ⟨b, off, none⟩ → 0 < n → b = bkl) :
    GivesP Try.prog 75 [Value.pointer (some ⟨bk, 0, none⟩)].toArray (fun x => (spE x).toArray) (fun k => k = bk ∨ k = bkl) (fun xs => xs = pairS left s) w := by
  intro lp J Jx Jp W hW hJ hJx hJp hY h0
  replace hb := hb.up hW
  replace hv := hv.up hW
  have q := Below.refl W.heap.size W
  have hvF : ∀ X, Below W.heap.size W X → ReadsT uE 1 X (.slice a n c) s := fun X b => hv.up b
  rw [show (#[.func (.yield lp) #[] #[]] ++ [Value.pointer (some ⟨bk, 0, none⟩)].toArray : Array Value) = #[.func (.yield lp) #[] #[], .pointer (some ⟨bk, 0, none⟩)] from rfl]
  refine X.fn Try.func75 rfl (n := 28) rfl rfl ?_
  refine CC.seq ?_
  refine CC.region ?_
  refine LL.val (R.load rfl rfl (I.ldNc (vs := [Value.slice a n c, Value.int IntKind.u64 ↑left]) (RowL.cells hb rfl) (by rfl) (by rfl))) rfl rfl rfl ?_
  have l13 := hb.lt
  (refine LL.call (R.call rfl rfl rfl) rfl rfl rfl (over_any a n c left s _ (hvF _ q) hn h) ?_; rintro e W12 ⟨rfl, b9⟩; refine ⟨_, rfl, ?_⟩)
  have zb9 := b9.size
  replace hW := hW.trans (b9.mono hW.size)
  replace hb := hb.up b9
  replace hv := hv.up b9
  replace q := q.trans (b9.mono q.size)
  refine LL.val (R.move rfl rfl) rfl rfl rfl ?_
  refine LL.nilS ?_
  refine CC.block ?_
  have hov := over_le s
  have yq := q.size
  have hJ0 := hJ (fun _ => False) (fun _ => False) [] _ _ h0 (.of_below q) fun k hk => hk.elim
  replace hv := hvF _ q
  refine CC.loop (α := Nat) (fun i => [(0, .func (.yield lp) #[] #[]), (1, .pointer (some ⟨bk, 0, none⟩)), (5, .int .i64 (overN s : Int)), (6, .int .i64 (i : Int))])
    (fun i wr => i ≤ overN s ∧ W.heap.size ≤ wr.heap.size ∧ J (fun _ => False) (pairF left s i) wr ∧ RowL wr bk 96 [.slice a n c, .int .u64 (left : Int)] ∧ ReadsT uE 1 wr (.slice a n c) s) (fun i => overN s - i)
    0 ⟨rfl, rfl, rfl, rfl, trivial⟩ ⟨by show 0 ≤ overN s; omega, yq, hJ0, hb, hv⟩ ?_
  clear h0 q hb hv hvF hJ0
  rintro i wr ⟨hi, hz, hJi, hb, hv⟩
  show CC none Try.prog _ 28 [] (sl [(0, .func (.yield lp) #[] #[]), (1, .pointer (some ⟨bk, 0, none⟩)), (5, .int .i64 (overN s : Int)), (6, .int .i64 (i : Int))]) _ wr
  by_cases hlt : i < overN s
  case neg =>
    obtain rfl : i = overN s := by omega
    refine CC.seq ?_
    refine CC.region ?_
    refine LL.val (R.ltF rfl rfl rfl (by omega)) rfl rfl rfl ?_
    refine LL.nilS ?_
    refine CC.seq ?_
    refine CC.no rfl ?_
    refine CC.exit ?_
    refine EE.thenX ?_
    refine EE.thenX ?_
    refine EE.inX ?_
    refine EE.end _ rfl rfl ?_
    exact .inl ⟨⟨_, rfl⟩, .inl ⟨_, _, rfl, hJi⟩⟩
  have qn := Below.refl wr.heap.size wr
  have hPt : ∀ X, Below wr.heap.size wr X → Calls Try.prog 63 #[celV (.slice a n c), .int .i64 (i : Int)] X fun e w' => e = .returned (.int .u64 (ptrN s i : Int)) ∧ Below X.heap.size X w' := fun X b => ptr_any a n c i _ s X (hv.up b) hn h (ptrN_at (by omega))
  have hAh : ∀ X, Below wr.heap.size wr X → Calls Try.prog 65 #[rowV (.slice a n c) left, .int .i64 (i : Int)] X fun e w' => e = .returned (.int .u64 (aheadN left s i : Int)) ∧ Below X.heap.size X w' := fun X b => ahead_any a n c left i s X (hv.up b) hn h (by omega)
  have hPa : ∀ X, Below wr.heap.size wr X → Calls Try.prog 76 #[celV (.slice a n c), .int .i64 (i : Int)] X fun e w' => e = .returned (.agg #[.int .u64 (keyN s i : Int), .int .u64 (ptrN s i : Int)]) ∧ Below X.heap.size X w' := fun X b => pair_any a n c i s X (hv.up b) hn h (by omega)
  have lbk := hb.lt
  by_cases hne : ptrN s i = aheadN left s i
  · have hst : pairF left s (i + 1) = pairF left s i := by show (if _ then _ else _) = _; rw [if_pos hne]
    have fin : ∀ X, Below wr.heap.size wr X → W.heap.size ≤ X.heap.size ∧ J (fun _ => False) (pairF left s (i + 1)) X := fun X b => ⟨by have := b.size; omega, by rw [hst]; exact hJ _ (fun _ => False) _ _ _ hJi (.of_below b) fun k hk => hk.elim⟩
    refine CC.seq ?_
    refine CC.region ?_
    refine LL.val (R.ltT rfl rfl rfl (by omega)) rfl rfl rfl ?_
    refine LL.nilS ?_
    refine CC.seq ?_
    refine CC.yes rfl ?_
    refine CC.skip ?_
    refine EE.thenN ?_
    refine CC.seq ?_
    refine CC.block ?_
    refine CC.seq ?_
    refine CC.region ?_
    refine LL.val (R.move rfl rfl) rfl rfl rfl ?_
    refine LL.val (R.assign rfl rfl) rfl rfl rfl ?_
    refine LL.nilS ?_
    refine CC.seq ?_
    refine CC.growT 15 (by kernel_rfl) (by kernel_rfl) ?_
    refine GG.val (fun w' b' => R.field rfl rfl (I.fld rfl)) rfl rfl ?_
    refine GG.val (fun w' b' => R.load rfl rfl (I.ldNc (vs := [Value.slice a n c]) (RowL.cells (hb.up b') rfl) (by rfl) (by rfl))) rfl rfl ?_
    refine GG.val (fun w' b' => R.move rfl rfl) rfl rfl ?_
    refine GG.call (fun w' => (R.call rfl rfl rfl)) rfl rfl (fun w' b' => (hPt w' b').mono fun e W' h => ⟨h.1, b'.trans (h.2.mono b'.size)⟩) ?_
    refine GG.val (fun w' b' => R.load rfl rfl (I.ldNc (vs := [Value.slice a n c, Value.int IntKind.u64 ↑left]) (RowL.cells (hb.up b') rfl) (by rfl) (by rfl))) rfl rfl ?_
    refine GG.val (fun w' b' => R.move rfl rfl) rfl rfl ?_
    refine GG.call (fun w' => (R.call rfl rfl rfl)) rfl rfl (fun w' b' => (hAh w' b').mono fun e W' h => ⟨h.1, b'.trans (h.2.mono b'.size)⟩) ?_
    refine GG.val (fun w' b' => R.neF rfl rfl rfl (by omega)) rfl rfl ?_
    refine GG.val (fun w' b' => R.move rfl rfl) rfl rfl ?_
    refine GG.skip rfl rfl ?_
    refine GG.skip rfl rfl ?_
    refine GG.skip rfl rfl ?_
    refine GG.skip rfl rfl ?_
    refine GG.skip rfl rfl ?_
    refine GG.skip rfl rfl ?_
    refine GG.nil (fun Wb5 bb4 => ?_)
    have zbb4 := bb4.size
    replace hb := hb.up bb4
    replace hv := hv.up bb4
    replace qn := qn.trans (bb4.mono qn.size)
    refine LL.skip rfl rfl ?_
    refine LL.skip rfl rfl ?_
    refine LL.val (R.pick rfl rfl rfl) rfl rfl rfl ?_
    refine LL.nilS ?_
    refine CC.no rfl ?_
    refine CC.skip ?_
    refine EE.inN ?_
    refine EE.thenN ?_
    refine CC.region ?_
    refine LL.val (R.addNc rfl rfl rfl rfl (by omega)) rfl rfl rfl ?_
    refine LL.val (R.move rfl rfl) rfl rfl rfl ?_
    refine LL.nil ?_
    exact EE.round (i + 1) ⟨rfl, rfl, rfl, rfl, trivial⟩ ⟨by show i + 1 ≤ overN s; omega, (fin _ qn).1, (fin _ qn).2, hb, hv⟩ (by show overN s - (i + 1) < overN s - i; omega)
  have hst : pairF left s (i + 1) = pairF left s i ++ [(i, prA s i)] := by show (if _ then _ else _) = _; rw [if_neg hne]
  have hpart : Part (fun xs => xs = pairS left s) (pairF left s i ++ [(i, prA s i)]) := ⟨_, rfl, by rw [← hst]; exact pairF_pre left s _ _ (by omega)⟩
  have yield : ∀ X, Below wr.heap.size wr X → RowL X bk 96 [.slice a n c, .int .u64 (left : Int)] → ReadsT uE 1 X (.slice a n c) s → YieldAt Fence.wide 3 Try.prog lp (spE (i, prA s i)).toArray X fun e W' => (e = .returned (.bool true) ∧ W.heap.size ≤ W'.heap.size ∧ J (fun _ => False) (pairF left s (i + 1)) W' ∧ RowL W' bk 96 [.slice a n c, .int .u64 (left : Int)] ∧ ReadsT uE 1 W' (.slice a n c) s) ∨ (e = .returned (.bool false) ∧ Jx (fun _ => False) (pairF left s i ++ [(i, prA s i)]) W') ∨ ∃ ch, e = .panicked ch ∧ Jp ch W' := fun X b hb hv => by
    obtain ⟨fn, tm, ag, bd, hy, hR⟩ := hY (fun _ => False) _ _ X (fun k hk => hk.elim) (hJ _ (fun _ => False) _ _ _ hJi (.of_below b) fun k hk => hk.elim) hpart
    refine ⟨fn, tm, ag, bd, hy, hR.mono ?_⟩
    rintro e W' ⟨hs, (⟨rfl, h1, h2⟩ | ⟨rfl, h1⟩ | h1)⟩
    · exact .inl ⟨rfl, by have := hs.size; have := b.size; omega, by rw [hst]; exact h1, hb.same (h2.same bk (.inl rfl)), hv.keepB hs.size h2 hbl (.inr rfl)⟩
    · exact .inr (.inl ⟨rfl, h1⟩)
    · exact .inr (.inr h1)
  clear hJi hY
  refine CC.seq ?_
  refine CC.region ?_
  refine LL.val (R.ltT rfl rfl rfl (by omega)) rfl rfl rfl ?_
  refine LL.nilS ?_
  refine CC.seq ?_
  refine CC.yes rfl ?_
  refine CC.skip ?_
  refine EE.thenN ?_
  refine CC.seq ?_
  refine CC.block ?_
  refine CC.seq ?_
  refine CC.region ?_
  refine LL.val (R.move rfl rfl) rfl rfl rfl ?_
  refine LL.val (R.assign rfl rfl) rfl rfl rfl ?_
  refine LL.nilS ?_
  refine CC.seq ?_
  refine CC.growT 15 (by kernel_rfl) (by kernel_rfl) ?_
  refine GG.val (fun w' b' => R.field rfl rfl (I.fld rfl)) rfl rfl ?_
  refine GG.val (fun w' b' => R.load rfl rfl (I.ldNc (vs := [Value.slice a n c]) (RowL.cells (hb.up b') rfl) (by rfl) (by rfl))) rfl rfl ?_
  refine GG.val (fun w' b' => R.move rfl rfl) rfl rfl ?_
  refine GG.call (fun w' => (R.call rfl rfl rfl)) rfl rfl (fun w' b' => (hPt w' b').mono fun e W' h => ⟨h.1, b'.trans (h.2.mono b'.size)⟩) ?_
  refine GG.val (fun w' b' => R.load rfl rfl (I.ldNc (vs := [Value.slice a n c, Value.int IntKind.u64 ↑left]) (RowL.cells (hb.up b') rfl) (by rfl) (by rfl))) rfl rfl ?_
  refine GG.val (fun w' b' => R.move rfl rfl) rfl rfl ?_
  refine GG.call (fun w' => (R.call rfl rfl rfl)) rfl rfl (fun w' b' => (hAh w' b').mono fun e W' h => ⟨h.1, b'.trans (h.2.mono b'.size)⟩) ?_
  refine GG.val (fun w' b' => R.neT rfl rfl rfl (by omega)) rfl rfl ?_
  refine GG.val (fun w' b' => R.move rfl rfl) rfl rfl ?_
  refine GG.val (fun w' b' => R.move rfl rfl) rfl rfl ?_
  refine GG.val (fun w' b' => R.move rfl rfl) rfl rfl ?_
  refine GG.val (fun w' b' => R.field rfl rfl (I.fld rfl)) rfl rfl ?_
  refine GG.val (fun w' b' => R.load rfl rfl (I.ldNc (vs := [Value.slice a n c]) (RowL.cells (hb.up b') rfl) (by rfl) (by rfl))) rfl rfl ?_
  refine GG.val (fun w' b' => R.move rfl rfl) rfl rfl ?_
  refine GG.call (fun w' => (R.call rfl rfl rfl)) rfl rfl (fun w' b' => (hPa _ (by assumption)).mono fun e W' h => ⟨h.1, b'.trans (h.2.mono b'.size)⟩) ?_
  refine GG.nil (fun Wc5 bc4 => ?_)
  have zbc4 := bc4.size
  replace hb := hb.up bc4
  replace hv := hv.up bc4
  replace qn := qn.trans (bc4.mono qn.size)
  refine LL.yieldX (vs := spE (i, prA s i)) rfl rfl rfl rfl rfl (yield _ qn hb hv) ?_
  rintro e W4 (⟨rfl, z4, hJ4, hb4, hv4⟩ | ⟨rfl, hJx4⟩ | ⟨ch, rfl, hp⟩)
  · refine .inl ⟨_, rfl, ?_⟩
    clear hb hv qn hPt hAh hPa yield
    refine LL.val (R.not rfl rfl) rfl rfl rfl ?_
    refine LL.val (R.pick rfl rfl rfl) rfl rfl rfl ?_
    refine LL.nilS ?_
    refine CC.no rfl ?_
    refine CC.skip ?_
    refine EE.inN ?_
    refine EE.thenN ?_
    refine CC.region ?_
    refine LL.val (R.addNc rfl rfl rfl rfl (by omega)) rfl rfl rfl ?_
    refine LL.val (R.move rfl rfl) rfl rfl rfl ?_
    refine LL.nil ?_
    exact EE.round (i + 1) ⟨rfl, rfl, rfl, rfl, trivial⟩ ⟨by show i + 1 ≤ overN s; omega, z4, hJ4, hb4, hv4⟩ (by show overN s - (i + 1) < overN s - i; omega)
  · refine .inl ⟨_, rfl, ?_⟩
    clear hb hv qn hPt hAh hPa yield
    refine LL.val (R.not rfl rfl) rfl rfl rfl ?_
    refine LL.val (R.pick rfl rfl rfl) rfl rfl rfl ?_
    refine LL.nilS ?_
    refine CC.yes rfl ?_
    refine CC.ret ?_
    refine EE.inR ?_
    refine EE.thenR ?_
    refine EE.thenR ?_
    refine EE.inR ?_
    refine EE.ret _ rfl rfl ?_
    exact .inl ⟨⟨_, rfl⟩, .inr ⟨_, _, hpart, hJx4⟩⟩
  · refine .inr ⟨_, rfl, ?_⟩
    clear hb hv qn hPt hAh hPa yield
    refine EE.thenP ?_
    refine EE.inP ?_
    refine EE.thenP ?_
    refine EE.thenP ?_
    refine EE.inP ?_
    refine EE.pan ?_
    exact .inr ⟨ch, rfl, hp⟩
end Go.Proofs.Ytfplilpefhhpnaa
/- slots: the pairs in a list; a key's slot. -/
namespace Go.Proofs.Ytfplilpefhhpnaa
set_option linter.unusedVariables false
set_option linter.unusedSimpArgs false
open Go.RowKit Go.Shelf
theorem Try.infoPr : (Try.prog.info? 46).map (fun i => (i.zero, i.size, i.bytes)) = some (some (.agg #[.int .u64 0, .int .u64 0]), 2, 16) := by kernel_rfl
theorem ElPr : ElT Try.prog 27 46 (.agg #[.int .u64 0, .int .u64 0]) 2 16 := info_parts_t Try.underlying27 Try.infoPr rfl
set_option maxRecDepth 100000
set_option maxHeartbeats 4000000
theorem each_any (a : Option Addr) (n c left : Nat) (w : World) : Calls Try.prog 52 #[rowV (.slice a n c) left] w fun e w' => ∃ bk, e = .returned (.func (.func 75) #[] #[.pointer (some ⟨bk, 0, none⟩)]) ∧ RowL w' bk 96 [.slice a n c, .int .u64 (left : Int)] ∧ w.heap.size ≤ bk ∧ Below w.heap.size w w' := by
  have q := Below.refl w.heap.size w
  refine X.fn Try.func52 rfl (n := 4) rfl rfl ?_
  refine CC.seq ?_
  refine CC.region ?_
  refine LL.box [Value.slice a n c, Value.int IntKind.u64 ↑left] rfl rfl rfl rfl rfl ?_
  intro W2 g3 eg3 r4 z5 b1
  replace q := q.trans (b1.mono q.size)
  refine LL.val (R.assign rfl rfl) rfl rfl rfl ?_
  refine LL.nilS ?_
  refine CC.seq ?_
  refine CC.region ?_
  refine LL.val (R.func rfl rfl rfl) rfl rfl rfl ?_
  refine LL.val (R.assign rfl rfl) rfl rfl rfl ?_
  refine LL.nilS ?_
  refine CC.ret ?_
  refine EE.ret _ rfl rfl ?_
  exact ⟨_, rfl, by assumption, by omega, q⟩
theorem bkl_row {w : World} {a : Option Addr} {n c : Nat} {s : List Nat} (hv : ReadsT uE 1 w (.slice a n c) s) (bk : Nat) : ∃ bkl, (∀ b off, a = some ⟨b, off, none⟩ → 0 < n → b = bkl) ∧ (bkl = bk ∨ bkl < w.heap.size) := by
  obtain ⟨a', cap, e, hc, h'⟩ := hv
  cases e
  by_cases hne : s = []
  · subst hne
    exact ⟨bk, fun _ _ _ h0 => absurd h0 (Nat.lt_irrefl 0), .inl rfl⟩
  · obtain ⟨b, off, ha, hb, _⟩ := h' hne
    exact ⟨b, fun b' off' e _ => by rw [ha] at e; cases e; rfl, .inr hb⟩
theorem pairs_any (a : Option Addr) (n c left : Nat) (s : List Nat) (w : World) (hv : ReadsT uE 1 w (.slice a n c) s) (hn : s.length = n) (h : n ≤ 1048576) : Calls Try.prog 72 #[rowV (.slice a n c) left] w fun e w' => ∃ v, e = .returned v ∧ OwnsT prE 2 w' w.heap.size 46 v (pairP left s) ∧ Below w.heap.size w w' := by
  have q := Below.refl w.heap.size w
  have hvF : ∀ X, Below w.heap.size w X → ReadsT uE 1 X (.slice a n c) s := fun X b => hv.up b
  clear hv
  refine X.fnM Try.func72 rfl (n := 15) rfl rfl ?_
  refine CC.seq ?_
  refine CC.region ?_
  refine LL.box [Value.slice a n c, Value.int IntKind.u64 ↑left] rfl rfl rfl rfl rfl ?_
  intro W2 g3 eg3 r4 z5 b1
  replace q := q.trans (b1.mono q.size)
  refine LL.val (R.assign rfl rfl) rfl rfl rfl ?_
  refine LL.nilS ?_
  refine CC.seq ?_
  refine CC.region ?_
  have l6 := r4.lt
  refine LL.alloc ([Value.slice none 0 0]) rfl rfl rfl rfl rfl ?_
  intro W8 g9 eg9 r10 z11 b7
  replace r4 := r4.up b7
  replace b1 := b1.trans (b7.mono b1.size)
  replace q := q.trans (b7.mono q.size)
  refine LL.nilS ?_
  refine CC.seq ?_
  refine CC.seq ?_
  refine CC.region ?_
  refine LL.val (R.load rfl rfl (I.ldNc (vs := [Value.slice a n c, Value.int IntKind.u64 ↑left]) (RowL.cells r4 rfl) (by rfl) (by rfl))) rfl rfl rfl ?_
  refine LL.call (R.call rfl rfl rfl) rfl rfl rfl (each_any _ _ _ _ _) ?_
  rintro e W13 ⟨g14, rfl, r15, l16, b12⟩
  refine ⟨_, rfl, ?_⟩
  have zb12 := b12.size
  replace r10 := r10.up b12
  replace b7 := b7.trans (b12.mono b7.size)
  replace r4 := r4.up b12
  replace b1 := b1.trans (b12.mono b1.size)
  replace q := q.trans (b12.mono q.size)
  refine LL.nilS ?_
  refine CC.block ?_
  have yB := q.size
  have l9 := r10.lt
  have lbk := r15.lt
  obtain ⟨bkl, hbl, hblt⟩ := bkl_row (hvF _ (Below.refl _ _)) g14
  refine CC.rangeZ (γ := Nat) (gf := 75) (lb := [.pointer (some ⟨g14, 0, none⟩)]) (encs := spE) rfl rfl (each1_gives g14 bkl a n c left s W13 r15 (hvF _ q) hn h hbl).z (Below.refl _ _) (fun k hk => by (try simp only at hk); omega) (fun _ => rfl) rfl
    (fun m (pre : List (Nat × Pr)) W' => W13.heap.size ≤ W'.heap.size ∧ Below w.heap.size w W' ∧ ∃ v, RowL W' g9 27 [v] ∧ OwnsT prE 2 W' W13.heap.size 46 v (pre.map (·.2)) ∧ ∀ g, v.ownBlock = some g → ¬ m g)
    (fun _ _ _ => False)
    (fun W' => Below w.heap.size w W' ∧ ∃ v, RowL W' g9 27 [v] ∧ OwnsT prE 2 W' W13.heap.size 46 v (pairP left s))
    (by
      rintro m m' s X Y ⟨h0, h1, v, h3, h4, h5⟩ ht hg
      exact ⟨by have := ht.size; omega, h1.trans (ht.below yB h1.size), v, ht.row h3 (.inl l9), h4.turn ht h5, own_later h4 h5 hg⟩)
    (fun m m' s X Y hs ht hg => hs)
    ⟨Nat.le_refl _, q, _, r10, OwnsT.none _ _ _, fun g hg => by cases hg⟩ ?hIA (fun _ _ _ _ h => h.elim)
    (fun x g => sl [(3, .pointer (some ⟨g9, 0, none⟩)), (5, .pointer (some ⟨g, 0, none⟩))]) (fun x g W' => RowL W' g 46 (prE x.2) ∧ W13.heap.size ≤ g) (fun x g => fun _ W W' row h hg hr => ⟨RowL.own () W W' row h.1 hg hr, h.2⟩) ?assign ?body ?after
  case hIA =>
    rintro m xs W' rfl ⟨_, h1, v, h3, h4, _⟩
    exact ⟨h1, v, h3, h4⟩
  case assign =>
    intro l' m pre x W K hm hi hK
    have qa := Below.refl W.heap.size W
    have zW := hi.1
    have hup : ∀ X, Below W.heap.size W X → W13.heap.size ≤ X.heap.size ∧ Below w.heap.size w X ∧ ∃ v, RowL X g9 27 [v] ∧ OwnsT prE 2 X W13.heap.size 46 v (pre.map (·.2)) ∧ ∀ g, v.ownBlock = some g → ¬ m g := fun X b => by
      obtain ⟨h0, h1, v, h3, h4, h5⟩ := hi
      exact ⟨by have := b.size; omega, h1.trans (b.mono h1.size), v, h3.up b, h4.up b, h5⟩
    clear hi
    refine CC.region ?_
    refine LL.alloc ([Value.int IntKind.u64 0, Value.int IntKind.u64 0]) rfl rfl rfl rfl rfl ?_
    intro Wa2 ga3 ega3 ra4 za5 ba1
    replace qa := qa.trans (ba1.mono qa.size)
    refine LL.storeN (vs := [Value.int IntKind.u64 ↑x.2.1, Value.int IntKind.u64 ↑x.2.2]) rfl rfl rfl rfl ra4 (by exact Nat.le_of_ble_eq_true rfl) (ones_of rfl) rfl rfl ?_
    intro Wa7 ra8 ba6 za9
    have hlba6 := ra4.lt
    replace ra8 : RowL Wa7 _ 46 [Value.int IntKind.u64 ↑x.2.1, Value.int IntKind.u64 ↑x.2.2] := ra8
    clear ra4
    replace ba1 := ba1.grown ba6 ba1.size (by rintro k ⟨⟩; omega)
    replace qa := qa.grown ba6 qa.size (by rintro k ⟨⟩; omega)
    have ra4 := ra8
    clear ra8
    refine LL.nil ?_
    exact EE.thenK fun a' F => hK a' _ _ (StaysZ.of_below qa) (Keeps.of_below (fun k hk => by (try simp only at hk); omega) qa) (hup _ qa) (F.keep _ ⟨rfl, rfl, trivial⟩) ⟨by assumption, by omega⟩
  case body =>
    rintro l' m pre x g W hm hl' hrl ⟨zB, q, v, r10, o, hmv⟩ ⟨hx, hgB⟩ hpart
    have st := StaysZ.refl W13.heap.size m W
    have kp := Keeps.refl (fun k => k = g14 ∨ k = bkl) W
    have yq := q.size
    have lx := hx.lt
    obtain ⟨_, hr0⟩ := hrl
    have hr1 := (Array.getElem?_eq_some_iff.1 hr0).1
    clear hr0
    have hpl : pre.length + 1 ≤ 1048576 := by
      obtain ⟨_, rfl, hp⟩ := hpart
      have := hp.length_le
      have := pairS_len left s
      rw [List.length_append] at *
      simp only [List.length_cons, List.length_nil] at *
      omega
    obtain ⟨prs, eprs⟩ : ∃ prs, pre.map (·.2) = prs := ⟨_, rfl⟩
    rw [eprs] at o
    have hprl : prs.length = pre.length := by rw [← eprs, List.length_map]
    refine CC.block ?_
    refine CC.region ?_
    refine LL.val (R.load rfl rfl (I.ld1 rfl (RowL.cell r10 rfl))) rfl rfl rfl ?_
    refine LL.val (R.load rfl rfl (I.ldNc (vs := [Value.int IntKind.u64 ↑x.2.1, Value.int IntKind.u64 ↑x.2.2]) (RowL.cells hx rfl) (by rfl) (by rfl))) rfl rfl rfl ?_
    have lb1 := r10.lt
    have lb2 := hx.lt
    refine LL.lit (e := 46) [Value.int IntKind.u64 ↑x.2.1, Value.int IntKind.u64 ↑x.2.2] 1 rfl rfl (fun _ => by kernel_rfl) rfl rfl ?_
    intro Wb4 gb5 egb5 rb6 zb7 bb3
    replace q := q.trans (bb3.mono q.size)
    replace r10 := r10.up bb3
    replace hx := hx.up bb3
    replace st := st.trans (StaysZ.of_below bb3)
    replace kp := kp.trans (Keeps.of_below (fun k hk => by (try simp only at hk); omega) bb3)
    replace o := o.up bb3
    refine LL.appendT2 rfl rfl prEnc ElPr o (us := [x.2]) (RowL.readsT prEnc (ts := [x.2]) (by assumption) 1 (Nat.le_refl _)) (by simp only [List.length_cons, List.length_nil, maxLen]; omega) (by simp only [List.length_cons, List.length_nil]; omega) (by omega) rfl rfl ?_
    intro v' Wc o' gr hv'
    have og := own_ge o
    have zgr := gr.size
    replace r10 := r10.grO gr (fun e => by have := og g9 e; omega)
    replace st := st.trans (StaysZ.own o gr hmv)
    replace kp := kp.trans ⟨gr.size, fun k hk => gr.block k (by (try simp only at hk); omega) (fun e => by have := og k e.symm; (try simp only at hk); omega)⟩
    replace q := q.grown gr q.size (fun j ej => by have := og j ej; omega)
    replace hmv := own_new hv' hmv (fun j hj => by have := (hm j hj).2; omega)
    clear o gr hv'
    obtain ⟨a', cp, rfl, hcp⟩ := (o'.reads prEnc).form rfl
    have em : (pre ++ [x]).map (·.2) = prs ++ [x.2] := by rw [List.map_append, eprs]; rfl
    refine LL.store rfl rfl rfl rfl r10 (by exact Nat.le_of_ble_eq_true rfl) rfl rfl rfl rfl ?_
    intro Wc2 rc3 bc1 zc4
    have hlbc1 := r10.lt
    replace rc3 : RowL Wc2 _ 27 [Value.slice a' (prs ++ [x.2]).length cp] := rc3
    clear r10
    replace st := st.trans (StaysZ.of_grown bc1 (by omega))
    replace kp := kp.trans (Keeps.of_grown bc1 fun k hk => by (try simp only at hk); omega)
    replace q := q.grown bc1 q.size (by rintro k ⟨⟩; omega)
    replace o' := o'.grown bc1 (own_ne o' (by omega))
    have r10 := rc3
    clear rc3
    refine LL.nil ?_
    refine EE.inN ?_
    exact EE.roundNZ ⟨st, kp, by omega, q, _, r10, by rw [em]; exact o', hmv⟩
  case after =>
    rintro E W hE ⟨h1, v, r10, o⟩ hE1
    refine EE.thenN ?_
    refine CC.seq ?_
    refine CC.region ?_
    refine LL.val (R.load rfl rfl (I.ld1 rfl (RowL.cell r10 rfl))) rfl rfl rfl ?_
    refine LL.val (R.assign rfl rfl) rfl rfl rfl ?_
    refine LL.nilS ?_
    refine CC.ret ?_
    refine EE.ret1 hE1 _ rfl rfl ?_
    exact ⟨_, rfl, (own_taken o hE1).lower (by omega), taken_bel h1 (by omega) (Nat.le_refl _)⟩
end Go.Proofs.Ytfplilpefhhpnaa
/- slots: which rows are settled. -/
namespace Go.Proofs.Ytfplilpefhhpnaa
set_option linter.unusedVariables false
set_option linter.unusedSimpArgs false
open Go.RowKit Go.Shelf
/-- What 'settled' asks of a pair, of those ahead of it. -/
def goodP (left : Nat) (s : List Nat) (ps : List Pr) (j : Nat) : Prop := ps[j]? = some (prA s j) ∧ ptrN s j ∉ left :: (ps.take j).map (·.2) ∧ (0 < j → ∀ y, ps[j - 1]? = some y → y.1 < keyN s j)
def setP (left : Nat) (s : List Nat) : Prop := (pairP left s).length < s.length / 2 ∧ (∀ j, j < (pairP left s).length → goodP left s (pairP left s) j) ∧ ∀ j, (pairP left s).length ≤ j → j < s.length / 2 → ptrN s j = 0
set_option maxRecDepth 100000
set_option maxHeartbeats 4000000
theorem settled_any (a : Option Addr) (n c left : Nat) (s : List Nat) (w : World) (hv : ReadsT uE 1 w (.slice a n c) s) (hn : s.length = n) (h : n ≤ 1048576) : Calls Try.prog 73 #[rowV (.slice a n c) left] w fun e w' => ∃ b, e = .returned (.bool b) ∧ (b = true ↔ setP left s) ∧ Below w.heap.size w w' := by
  have q := Below.refl w.heap.size w
  have hvF : ∀ X, Below w.heap.size w X → ReadsT uE 1 X (.slice a n c) s := fun X b => hv.up b
  clear hv
  obtain ⟨ps, eps⟩ : ∃ ps, pairP left s = ps := ⟨_, rfl⟩
  have hpl : ps.length ≤ n / 2 := by rw [← eps, ← hn]; unfold pairP; rw [List.length_map]; exact pairS_len left s
  by_cases hlen : ps.length < n / 2
  case neg =>
    have hno : ¬ setP left s := fun hs => by
      have := hs.1
      rw [eps, hn] at this
      exact hlen this
    refine X.fn Try.func73 rfl (n := 73) rfl rfl ?_
    refine CC.seq ?_
    refine CC.region ?_
    refine LL.box [Value.slice a n c, Value.int IntKind.u64 ↑left] rfl rfl rfl rfl rfl ?_
    intro W9 g10 eg10 r11 z12 b8
    replace q := q.trans (b8.mono q.size)
    refine LL.val (R.assign rfl rfl) rfl rfl rfl ?_
    refine LL.nilS ?_
    refine CC.seq ?_
    refine CC.region ?_
    refine LL.val (R.load rfl rfl (I.ldNc (vs := [Value.slice a n c, Value.int IntKind.u64 ↑left]) (RowL.cells r11 rfl) (by rfl) (by rfl))) rfl rfl rfl ?_
    have l33 := r11.lt
    (refine LL.call (R.call rfl rfl rfl) rfl rfl rfl (pairs_any a n c left s _ (hvF _ q) hn h) ?_; rintro e W32 ⟨v, rfl, o, b29⟩; refine ⟨_, rfl, ?_⟩; rw [eps] at o; obtain ⟨aP, cP, rfl, hcP⟩ := (o.reads prEnc).form rfl)
    have zb29 := b29.size
    replace r11 := r11.up b29
    replace b8 := b8.trans (b29.mono b8.size)
    replace q := q.trans (b29.mono q.size)
    refine LL.val (R.assign rfl rfl) rfl rfl rfl ?_
    refine LL.nilS ?_
    refine CC.seq ?_
    refine CC.seq ?_
    refine CC.region ?_
    refine LL.val (R.move rfl rfl) rfl rfl rfl ?_
    refine LL.val (R.len rfl rfl rfl rfl) rfl rfl rfl ?_
    refine LL.val (R.field rfl rfl (I.fld rfl)) rfl rfl rfl ?_
    refine LL.val (R.load rfl rfl (I.ldNc (vs := [Value.slice a n c]) (RowL.cells r11 rfl) (by rfl) (by rfl))) rfl rfl rfl ?_
    refine LL.call (R.call rfl rfl rfl) rfl rfl rfl (many_any _ _ _ _ (by first | assumption | omega)) ?_
    rintro e W86 ⟨rfl, b85⟩
    refine ⟨_, rfl, ?_⟩
    have zb85 := b85.size
    replace b29 := b29.trans (b85.mono b29.size)
    replace o := o.up b85
    replace r11 := r11.up b85
    replace b8 := b8.trans (b85.mono b8.size)
    replace q := q.trans (b85.mono q.size)
    refine LL.val (R.geT rfl rfl rfl (by omega)) rfl rfl rfl ?_
    refine LL.nilS ?_
    refine CC.yes rfl ?_
    refine CC.seq ?_
    refine CC.region ?_
    refine LL.val (R.assign rfl rfl) rfl rfl rfl ?_
    refine LL.nilS ?_
    refine CC.ret ?_
    refine EE.thenR ?_
    refine EE.ret _ rfl rfl ?_
    exact ⟨_, rfl, by simp [hno], q⟩
  refine X.fn Try.func73 rfl (n := 73) rfl rfl ?_
  refine CC.seq ?_
  refine CC.region ?_
  refine LL.box [Value.slice a n c, Value.int IntKind.u64 ↑left] rfl rfl rfl rfl rfl ?_
  intro Wa9 ga10 ega10 ra11 za12 ba8
  replace q := q.trans (ba8.mono q.size)
  refine LL.val (R.assign rfl rfl) rfl rfl rfl ?_
  refine LL.nilS ?_
  refine CC.seq ?_
  refine CC.region ?_
  refine LL.val (R.load rfl rfl (I.ldNc (vs := [Value.slice a n c, Value.int IntKind.u64 ↑left]) (RowL.cells ra11 rfl) (by rfl) (by rfl))) rfl rfl rfl ?_
  have la33 := ra11.lt
  (refine LL.call (R.call rfl rfl rfl) rfl rfl rfl (pairs_any a n c left s _ (hvF _ q) hn h) ?_; rintro e Wa32 ⟨v, rfl, o, ba29⟩; refine ⟨_, rfl, ?_⟩; rw [eps] at o; obtain ⟨aP, cP, rfl, hcP⟩ := (o.reads prEnc).form rfl; have hpF : ∀ X, Below (Wa32).heap.size Wa32 X → ReadsT prE 2 X (.slice aP ps.length cP) ps := fun X b => (o.reads prEnc).up b; have qP := Below.refl (Wa32).heap.size Wa32; clear o)
  have zba29 := ba29.size
  replace ra11 := ra11.up ba29
  replace ba8 := ba8.trans (ba29.mono ba8.size)
  replace q := q.trans (ba29.mono q.size)
  refine LL.val (R.assign rfl rfl) rfl rfl rfl ?_
  refine LL.nilS ?_
  refine CC.seq ?_
  refine CC.seq ?_
  refine CC.region ?_
  refine LL.val (R.move rfl rfl) rfl rfl rfl ?_
  refine LL.val (R.len rfl rfl rfl rfl) rfl rfl rfl ?_
  refine LL.val (R.field rfl rfl (I.fld rfl)) rfl rfl rfl ?_
  refine LL.val (R.load rfl rfl (I.ldNc (vs := [Value.slice a n c]) (RowL.cells ra11 rfl) (by rfl) (by rfl))) rfl rfl rfl ?_
  refine LL.call (R.call rfl rfl rfl) rfl rfl rfl (many_any _ _ _ _ (by first | assumption | omega)) ?_
  rintro e Wa86 ⟨rfl, ba85⟩
  refine ⟨_, rfl, ?_⟩
  have zba85 := ba85.size
  replace ba29 := ba29.trans (ba85.mono ba29.size)
  replace qP := qP.trans (ba85.mono qP.size)
  replace ra11 := ra11.up ba85
  replace ba8 := ba8.trans (ba85.mono ba8.size)
  replace q := q.trans (ba85.mono q.size)
  refine LL.val (R.geF rfl rfl rfl (by omega)) rfl rfl rfl ?_
  refine LL.nilS ?_
  refine CC.no rfl ?_
  refine CC.skip ?_
  refine EE.thenN ?_
  refine CC.seq ?_
  refine CC.region ?_
  refine LL.val (R.field rfl rfl (I.fld rfl)) rfl rfl rfl ?_
  refine LL.val (R.load rfl rfl (I.ld1 rfl (RowL.cell ra11 rfl))) rfl rfl rfl ?_
  have la120 := ra11.lt
  refine LL.lit (e := 25) [Value.int IntKind.u64 ↑left] 1 rfl rfl (fun _ => by kernel_rfl) rfl rfl ?_
  intro Wa122 ga123 ega123 ra124 za125 ba121
  replace ba85 := ba85.trans (ba121.mono ba85.size)
  replace ba29 := ba29.trans (ba121.mono ba29.size)
  replace qP := qP.trans (ba121.mono qP.size)
  replace ra11 := ra11.up ba121
  replace ba8 := ba8.trans (ba121.mono ba8.size)
  replace q := q.trans (ba121.mono q.size)
  refine LL.val (R.assign rfl rfl) rfl rfl rfl ?_
  refine LL.nilS ?_
  refine CC.seq ?_
  refine CC.seq ?_
  refine CC.region ?_
  refine LL.val (R.move rfl rfl) rfl rfl rfl ?_
  refine LL.val (R.len rfl rfl rfl rfl) rfl rfl rfl ?_
  refine LL.val (R.move rfl rfl) rfl rfl rfl ?_
  refine LL.nilS ?_
  refine CC.block ?_
  have yB := q.size
  have o0 : OwnsT uE 1 Wa122 Wa86.heap.size 25 (.slice (some ⟨ga123, 0, none⟩) 1 1) (left :: (ps.take 0).map (·.2)) := RowL.ownsT uEnc (ts := [left]) ra124 (by omega) (by simp [maxLen])
  refine CC.loop (α := Nat × Value) (fun p => [(1, .pointer (some ⟨ga10, 0, none⟩)), (3, .slice aP ps.length cP), (4, p.2), (19, .slice aP ps.length cP), (20, .int .i64 (ps.length : Int)), (21, .int .i64 (p.1 : Int))])
    (fun p W => p.1 ≤ ps.length ∧ Below w.heap.size w W ∧ Below Wa32.heap.size Wa32 W ∧ RowL W ga10 96 [.slice a n c, .int .u64 (left : Int)] ∧ OwnsT uE 1 W Wa86.heap.size 25 p.2 (left :: (ps.take p.1).map (·.2)) ∧ Wa122.heap.size ≤ W.heap.size ∧ ∀ j, j < p.1 → goodP left s ps j) (fun p => ps.length - p.1)
    (0, .slice (some ⟨ga123, 0, none⟩) 1 1) ⟨rfl, rfl, rfl, rfl, rfl, rfl, trivial⟩ ⟨Nat.zero_le _, q, qP, ra11, o0, Nat.le_refl _, fun j h => by omega⟩ ?_
  clear q qP ra11 ra124 o0 ba121 ba85 ba29 ba8
  rintro ⟨i, vh⟩ W ⟨hi, q, qP, ra11, oh, zW, hgd⟩
  simp only at hi oh hgd
  have yq := q.size
  have yP := qP.size
  show CC none Try.prog _ 73 [] (sl [(1, .pointer (some ⟨ga10, 0, none⟩)), (3, .slice aP ps.length cP), (4, vh), (19, .slice aP ps.length cP), (20, .int .i64 (ps.length : Int)), (21, .int .i64 (i : Int))]) _ W
  by_cases hlt : i < ps.length
  case neg =>
    obtain rfl : i = ps.length := by omega
    clear oh
    refine CC.seq ?_
    refine CC.region ?_
    refine LL.val (R.ltF rfl rfl rfl (by omega)) rfl rfl rfl ?_
    refine LL.nilS ?_
    refine CC.seq ?_
    refine CC.no rfl ?_
    refine CC.exit ?_
    refine EE.thenX ?_
    refine EE.thenX ?_
    refine EE.inX ?_
    refine EE.thenN ?_
    refine CC.seq ?_
    refine CC.seq ?_
    refine CC.region ?_
    refine LL.val (R.move rfl rfl) rfl rfl rfl ?_
    refine LL.val (R.len rfl rfl rfl rfl) rfl rfl rfl ?_
    refine LL.val (R.assign rfl rfl) rfl rfl rfl ?_
    refine LL.nilS ?_
    refine CC.block ?_
    refine CC.loop (α := Nat) (fun i => [(1, .pointer (some ⟨ga10, 0, none⟩)), (7, .int .i64 (i : Int))]) (fun i W => ps.length ≤ i ∧ i ≤ n / 2 ∧ Below w.heap.size w W ∧ RowL W ga10 96 [.slice a n c, .int .u64 (left : Int)] ∧ ∀ j, ps.length ≤ j → j < i → ptrN s j = 0) (fun i => n / 2 - i)
      ps.length ⟨rfl, rfl, trivial⟩ ⟨Nat.le_refl _, hpl, q, ra11, fun j h1 h2 => by omega⟩ ?_
    clear q ra11
    rintro j W ⟨hj1, hj2, q, ra11, hz⟩
    have yq := q.size
    show CC none Try.prog _ 73 [] (sl [(1, .pointer (some ⟨ga10, 0, none⟩)), (7, .int .i64 (j : Int))]) _ W
    by_cases hlt2 : j < n / 2
    case neg =>
      obtain rfl : j = n / 2 := by omega
      have hyes : setP left s := ⟨by rw [eps, hn]; exact hlen, by rw [eps]; exact hgd, by rw [eps, hn]; exact hz⟩
      refine CC.seq ?_
      refine CC.seq ?_
      refine CC.region ?_
      refine LL.val (R.move rfl rfl) rfl rfl rfl ?_
      refine LL.val (R.field rfl rfl (I.fld rfl)) rfl rfl rfl ?_
      refine LL.val (R.load rfl rfl (I.ldNc (vs := [Value.slice a n c]) (RowL.cells ra11 rfl) (by rfl) (by rfl))) rfl rfl rfl ?_
      refine LL.call (R.call rfl rfl rfl) rfl rfl rfl (many_any _ _ _ _ (by first | assumption | omega)) ?_
      rintro e Wc2 ⟨rfl, bc1⟩
      refine ⟨_, rfl, ?_⟩
      have zbc1 := bc1.size
      replace q := q.trans (bc1.mono q.size)
      replace ra11 := ra11.up bc1
      refine LL.val (R.ltF rfl rfl rfl (by omega)) rfl rfl rfl ?_
      refine LL.nilS ?_
      refine CC.no rfl ?_
      refine CC.exit ?_
      refine EE.thenX ?_
      refine EE.thenX ?_
      refine EE.inX ?_
      refine EE.thenN ?_
      refine CC.seq ?_
      refine CC.region ?_
      refine LL.val (R.assign rfl rfl) rfl rfl rfl ?_
      refine LL.nilS ?_
      refine CC.ret ?_
      refine EE.ret _ rfl rfl ?_
      exact ⟨_, rfl, by simp [hyes], q⟩
    have hPt : ∀ X, Below W.heap.size W X → Calls Try.prog 63 #[celV (.slice a n c), .int .i64 (j : Int)] X fun e w' => e = .returned (.int .u64 (ptrN s j : Int)) ∧ Below X.heap.size X w' := fun X b => ptr_any a n c j _ s X (hvF _ (q.trans (b.mono q.size))) hn h (ptrN_at (by omega))
    have qn := Below.refl W.heap.size W
    by_cases hp : ptrN s j = 0
    · have hz' : ∀ k, ps.length ≤ k → k < j + 1 → ptrN s k = 0 := fun k h1 h2 => by
        by_cases e : k = j
        · subst e; exact hp
        · exact hz k h1 (by omega)
      clear hz
      refine CC.seq ?_
      refine CC.seq ?_
      refine CC.region ?_
      refine LL.val (R.move rfl rfl) rfl rfl rfl ?_
      refine LL.val (R.field rfl rfl (I.fld rfl)) rfl rfl rfl ?_
      refine LL.val (R.load rfl rfl (I.ldNc (vs := [Value.slice a n c]) (RowL.cells ra11 rfl) (by rfl) (by rfl))) rfl rfl rfl ?_
      refine LL.call (R.call rfl rfl rfl) rfl rfl rfl (many_any _ _ _ _ (by first | assumption | omega)) ?_
      rintro e Wd34 ⟨rfl, bd33⟩
      refine ⟨_, rfl, ?_⟩
      have zbd33 := bd33.size
      replace q := q.trans (bd33.mono q.size)
      replace ra11 := ra11.up bd33
      replace qn := qn.trans (bd33.mono qn.size)
      refine LL.val (R.ltT rfl rfl rfl (by omega)) rfl rfl rfl ?_
      refine LL.nilS ?_
      refine CC.yes rfl ?_
      refine CC.skip ?_
      refine EE.thenN ?_
      refine CC.seq ?_
      refine CC.block ?_
      refine CC.seq ?_
      refine CC.region ?_
      refine LL.val (R.field rfl rfl (I.fld rfl)) rfl rfl rfl ?_
      refine LL.val (R.load rfl rfl (I.ldNc (vs := [Value.slice a n c]) (RowL.cells ra11 rfl) (by rfl) (by rfl))) rfl rfl rfl ?_
      refine LL.val (R.move rfl rfl) rfl rfl rfl ?_
      have ld72 := ra11.lt
      (refine LL.call (R.call rfl rfl rfl) rfl rfl rfl (hPt _ qn) ?_; rintro e Wd71 ⟨rfl, bd68⟩; refine ⟨_, rfl, ?_⟩)
      have zbd68 := bd68.size
      replace bd33 := bd33.trans (bd68.mono bd33.size)
      replace q := q.trans (bd68.mono q.size)
      replace ra11 := ra11.up bd68
      replace qn := qn.trans (bd68.mono qn.size)
      refine LL.val (R.neF rfl rfl rfl (by omega)) rfl rfl rfl ?_
      refine LL.nilS ?_
      refine CC.no rfl ?_
      refine CC.skip ?_
      refine EE.inN ?_
      refine EE.thenN ?_
      refine CC.region ?_
      refine LL.val (R.move rfl rfl) rfl rfl rfl ?_
      refine LL.val (R.addNc rfl rfl rfl rfl (by omega)) rfl rfl rfl ?_
      refine LL.val (R.assign rfl rfl) rfl rfl rfl ?_
      refine LL.nil ?_
      exact EE.round (j + 1) ⟨rfl, rfl, trivial⟩ ⟨by show ps.length ≤ j + 1; omega, by show j + 1 ≤ n / 2; omega, q, ra11, hz'⟩ (by show n / 2 - (j + 1) < n / 2 - j; omega)
    · have hno : ¬ setP left s := fun hs => hp (hs.2.2 j (by rw [eps]; exact hj1) (by rw [hn]; exact hlt2))
      refine CC.seq ?_
      refine CC.seq ?_
      refine CC.region ?_
      refine LL.val (R.move rfl rfl) rfl rfl rfl ?_
      refine LL.val (R.field rfl rfl (I.fld rfl)) rfl rfl rfl ?_
      refine LL.val (R.load rfl rfl (I.ldNc (vs := [Value.slice a n c]) (RowL.cells ra11 rfl) (by rfl) (by rfl))) rfl rfl rfl ?_
      refine LL.call (R.call rfl rfl rfl) rfl rfl rfl (many_any _ _ _ _ (by first | assumption | omega)) ?_
      rintro e We34 ⟨rfl, be33⟩
      refine ⟨_, rfl, ?_⟩
      have zbe33 := be33.size
      replace q := q.trans (be33.mono q.size)
      replace ra11 := ra11.up be33
      replace qn := qn.trans (be33.mono qn.size)
      refine LL.val (R.ltT rfl rfl rfl (by omega)) rfl rfl rfl ?_
      refine LL.nilS ?_
      refine CC.yes rfl ?_
      refine CC.skip ?_
      refine EE.thenN ?_
      refine CC.seq ?_
      refine CC.block ?_
      refine CC.seq ?_
      refine CC.region ?_
      refine LL.val (R.field rfl rfl (I.fld rfl)) rfl rfl rfl ?_
      refine LL.val (R.load rfl rfl (I.ldNc (vs := [Value.slice a n c]) (RowL.cells ra11 rfl) (by rfl) (by rfl))) rfl rfl rfl ?_
      refine LL.val (R.move rfl rfl) rfl rfl rfl ?_
      have le72 := ra11.lt
      (refine LL.call (R.call rfl rfl rfl) rfl rfl rfl (hPt _ qn) ?_; rintro e We71 ⟨rfl, be68⟩; refine ⟨_, rfl, ?_⟩)
      have zbe68 := be68.size
      replace be33 := be33.trans (be68.mono be33.size)
      replace q := q.trans (be68.mono q.size)
      replace ra11 := ra11.up be68
      replace qn := qn.trans (be68.mono qn.size)
      refine LL.val (R.neT rfl rfl rfl (by omega)) rfl rfl rfl ?_
      refine LL.nilS ?_
      refine CC.yes rfl ?_
      refine CC.seq ?_
      refine CC.region ?_
      refine LL.val (R.assign rfl rfl) rfl rfl rfl ?_
      refine LL.nilS ?_
      refine CC.ret ?_
      refine EE.inR ?_
      refine EE.thenR ?_
      refine EE.thenR ?_
      refine EE.inR ?_
      refine EE.thenR ?_
      refine EE.ret _ rfl rfl ?_
      exact ⟨_, rfl, by simp [hno], q⟩
  obtain ⟨⟨k, p⟩, hx⟩ : ∃ x, ps[i]? = some x := ⟨_, List.getElem?_eq_getElem hlt⟩
  obtain ⟨bP, oP, rfl, lbP, _⟩ := (hpF _ (Below.refl _ _)).get prEnc hx
  have m1 : CellsN W ⟨bP, oP + i * 2, none⟩ 2 [.int .u64 (k : Int), .int .u64 (p : Int)] := (hpF W qP).elemN prEnc hx
  have og := own_ge oh
  have lva := ra11.lt
  have qn := Below.refl W.heap.size W
  have hPa : ∀ X, Below W.heap.size W X → Calls Try.prog 76 #[celV (.slice a n c), .int .i64 (i : Int)] X fun e w' => e = .returned (.agg #[.int .u64 (keyN s i : Int), .int .u64 (ptrN s i : Int)]) ∧ Below X.heap.size X w' := fun X b => pair_any a n c i s X (hvF _ (q.trans (b.mono q.size))) hn h (by omega)
  obtain ⟨aH, cH, rfl, hcH⟩ := (oh.reads uEnc).form rfl
  have hlh : (left :: (ps.take i).map (·.2)).length = i + 1 := by simp; omega
  have hAm : ∀ X, Below W.heap.size W X → Calls Try.prog 81 #[.int .u64 (p : Int), .slice aH (left :: (ps.take i).map (·.2)).length cH] X fun e w' => e = .returned (.bool (decide (p ∈ left :: (ps.take i).map (·.2)))) ∧ X = w' := fun X b => among_any p aH _ cH _ X ((oh.reads uEnc).up b) rfl (by omega)
  have ohF : ∀ X, Below W.heap.size W X → OwnsT uE 1 X Wa86.heap.size 25 (.slice aH (left :: (ps.take i).map (·.2)).length cH) (left :: (ps.take i).map (·.2)) := fun X b => oh.up b
  clear oh
  have hx1 : ∀ {y : Pr}, y = prA s i → (k, p) = y → k = keyN s i ∧ p = ptrN s i := fun e1 e2 => by
    rw [e1] at e2
    exact ⟨congrArg (·.1) e2, congrArg (·.2) e2⟩
  have bad : ¬ goodP left s ps i → ¬ setP left s := fun h1 h2 => h1 (by have := h2.2.1 i (by rw [eps]; exact hlt); rwa [eps] at this)
  have app : ∀ (X : World), Below W.heap.size W X → goodP left s ps i → True := fun _ _ _ => trivial
  by_cases hA : k = keyN s i ∧ p = ptrN s i
  case neg =>
    have hno := bad fun hg => hA (by
      have := hg.1
      rw [hx] at this
      exact hx1 rfl (Option.some.inj this))
    clear bad hx1
    by_cases hA1 : k = keyN s i
    · have hA2 : p ≠ ptrN s i := fun e => hA ⟨hA1, e⟩
      refine CC.seq ?_
      refine CC.region ?_
      refine LL.val (R.ltT rfl rfl rfl (by omega)) rfl rfl rfl ?_
      refine LL.nilS ?_
      refine CC.seq ?_
      refine CC.yes rfl ?_
      refine CC.skip ?_
      refine EE.thenN ?_
      refine CC.seq ?_
      refine CC.block ?_
      refine CC.seq ?_
      refine CC.region ?_
      refine LL.val (R.move rfl rfl) rfl rfl rfl ?_
      refine LL.val (R.index rfl rfl rfl (I.ixS rfl (by omega))) rfl rfl rfl ?_
      refine LL.val (R.load rfl rfl (I.ldM (by assumption) rfl rfl)) rfl rfl rfl ?_
      have lf1 := ra11.lt
      refine LL.alloc ([Value.int IntKind.u64 0, Value.int IntKind.u64 0]) rfl rfl rfl rfl rfl ?_
      intro Wf3 gf4 egf4 rf5 zf6 bf2
      replace q := q.trans (bf2.mono q.size)
      replace qP := qP.trans (bf2.mono qP.size)
      replace ra11 := ra11.up bf2
      replace m1 := m1.up bf2
      replace qn := qn.trans (bf2.mono qn.size)
      refine LL.val (R.assign rfl rfl) rfl rfl rfl ?_
      refine LL.storeN (vs := [Value.int IntKind.u64 ↑k, Value.int IntKind.u64 ↑p]) rfl rfl rfl rfl rf5 (by exact Nat.le_of_ble_eq_true rfl) (ones_of rfl) rfl rfl ?_
      intro Wf8 rf9 bf7 zf10
      have hlbf7 := rf5.lt
      replace rf9 : RowL Wf8 _ 46 [Value.int IntKind.u64 ↑k, Value.int IntKind.u64 ↑p] := rf9
      clear rf5
      replace bf2 := bf2.grown bf7 bf2.size (by rintro k ⟨⟩; omega)
      replace q := q.grown bf7 q.size (by rintro k ⟨⟩; omega)
      replace qP := qP.grown bf7 qP.size (by rintro k ⟨⟩; omega)
      replace ra11 := ra11.gr bf7 (by have := ra11.lt; omega)
      replace m1 := m1.gr bf7 (by have := m1.lt; omega)
      replace qn := qn.grown bf7 qn.size (by rintro k ⟨⟩; omega)
      have rf5 := rf9
      clear rf9
      refine LL.nilS ?_
      refine CC.seq ?_
      refine CC.seq ?_
      refine CC.grow (by kernel_rfl) (by kernel_rfl) ?_
      refine GG.val (fun w' b' => R.load rfl rfl (I.ldNc (vs := [Value.int IntKind.u64 ↑k, Value.int IntKind.u64 ↑p]) (RowL.cells (rf5.up b') rfl) (by rfl) (by rfl))) rfl rfl ?_
      refine GG.val (fun w' b' => R.field rfl rfl (I.fld rfl)) rfl rfl ?_
      refine GG.val (fun w' b' => R.load rfl rfl (I.ldNc (vs := [Value.slice a n c]) (RowL.cells (ra11.up b') rfl) (by rfl) (by rfl))) rfl rfl ?_
      refine GG.val (fun w' b' => R.move rfl rfl) rfl rfl ?_
      refine GG.call (fun w' => (R.call rfl rfl rfl)) rfl rfl (fun w' b' => (hPa w' (qn.trans (b'.mono qn.size))).mono fun e W' h => ⟨h.1, b'.trans (h.2.mono b'.size)⟩) ?_
      refine GG.val (fun w' b' => R.neSF (p := (↑k : Int) = ↑(keyN s i) ∧ (↑p : Int) = ↑(ptrN s i)) (bs := [decide ((↑k : Int) = ↑(keyN s i)), decide ((↑p : Int) = ↑(ptrN s i))]) rfl rfl rfl rfl (by kernel_rfl) (by kernel_rfl) (by simp) (by first | assumption | omega | exact ⟨rfl, rfl⟩ | exact fun h => h ⟨rfl, rfl⟩)) rfl rfl ?_
      refine GG.val (fun w' b' => R.move rfl rfl) rfl rfl ?_
      refine GG.skip rfl rfl ?_
      refine GG.skip rfl rfl ?_
      refine GG.skip rfl rfl ?_
      refine GG.skip rfl rfl ?_
      refine GG.val (fun w' b' => R.pick rfl rfl rfl) rfl rfl ?_
      refine GG.val (fun w' b' => R.move rfl rfl) rfl rfl ?_
      refine GG.skip rfl rfl ?_
      refine GG.skip rfl rfl ?_
      refine GG.skip rfl rfl ?_
      refine GG.skip rfl rfl ?_
      refine GG.skip rfl rfl ?_
      refine GG.skip rfl rfl ?_
      refine GG.skip rfl rfl ?_
      refine GG.skip rfl rfl ?_
      refine GG.skip rfl rfl ?_
      refine GG.skip rfl rfl ?_
      refine GG.skip rfl rfl ?_
      refine GG.skip rfl rfl ?_
      refine GG.skip rfl rfl ?_
      refine GG.val (fun w' b' => R.pick rfl rfl rfl) rfl rfl ?_
      refine GG.nilQ (fun Wf15 bf14 => ?_)
      have zbf14 := bf14.size
      replace bf2 := bf2.trans (bf14.mono bf2.size)
      replace q := q.trans (bf14.mono q.size)
      replace qP := qP.trans (bf14.mono qP.size)
      replace ra11 := ra11.up bf14
      replace m1 := m1.up bf14
      replace qn := qn.trans (bf14.mono qn.size)
      replace rf5 := rf5.up bf14
      refine EE.thenN ?_
      refine CC.yes rfl ?_
      refine CC.seq ?_
      refine CC.region ?_
      refine LL.val (R.assign rfl rfl) rfl rfl rfl ?_
      refine LL.nilS ?_
      refine CC.ret ?_
      refine EE.thenR ?_
      refine EE.inR ?_
      refine EE.thenR ?_
      refine EE.thenR ?_
      refine EE.inR ?_
      refine EE.thenR ?_
      refine EE.ret _ rfl rfl ?_
      exact ⟨_, rfl, by simp [hno], q⟩
    · refine CC.seq ?_
      refine CC.region ?_
      refine LL.val (R.ltT rfl rfl rfl (by omega)) rfl rfl rfl ?_
      refine LL.nilS ?_
      refine CC.seq ?_
      refine CC.yes rfl ?_
      refine CC.skip ?_
      refine EE.thenN ?_
      refine CC.seq ?_
      refine CC.block ?_
      refine CC.seq ?_
      refine CC.region ?_
      refine LL.val (R.move rfl rfl) rfl rfl rfl ?_
      refine LL.val (R.index rfl rfl rfl (I.ixS rfl (by omega))) rfl rfl rfl ?_
      refine LL.val (R.load rfl rfl (I.ldM (by assumption) rfl rfl)) rfl rfl rfl ?_
      have lg1 := ra11.lt
      refine LL.alloc ([Value.int IntKind.u64 0, Value.int IntKind.u64 0]) rfl rfl rfl rfl rfl ?_
      intro Wg3 gg4 egg4 rg5 zg6 bg2
      replace q := q.trans (bg2.mono q.size)
      replace qP := qP.trans (bg2.mono qP.size)
      replace ra11 := ra11.up bg2
      replace m1 := m1.up bg2
      replace qn := qn.trans (bg2.mono qn.size)
      refine LL.val (R.assign rfl rfl) rfl rfl rfl ?_
      refine LL.storeN (vs := [Value.int IntKind.u64 ↑k, Value.int IntKind.u64 ↑p]) rfl rfl rfl rfl rg5 (by exact Nat.le_of_ble_eq_true rfl) (ones_of rfl) rfl rfl ?_
      intro Wg8 rg9 bg7 zg10
      have hlbg7 := rg5.lt
      replace rg9 : RowL Wg8 _ 46 [Value.int IntKind.u64 ↑k, Value.int IntKind.u64 ↑p] := rg9
      clear rg5
      replace bg2 := bg2.grown bg7 bg2.size (by rintro k ⟨⟩; omega)
      replace q := q.grown bg7 q.size (by rintro k ⟨⟩; omega)
      replace qP := qP.grown bg7 qP.size (by rintro k ⟨⟩; omega)
      replace ra11 := ra11.gr bg7 (by have := ra11.lt; omega)
      replace m1 := m1.gr bg7 (by have := m1.lt; omega)
      replace qn := qn.grown bg7 qn.size (by rintro k ⟨⟩; omega)
      have rg5 := rg9
      clear rg9
      refine LL.nilS ?_
      refine CC.seq ?_
      refine CC.seq ?_
      refine CC.grow (by kernel_rfl) (by kernel_rfl) ?_
      refine GG.val (fun w' b' => R.load rfl rfl (I.ldNc (vs := [Value.int IntKind.u64 ↑k, Value.int IntKind.u64 ↑p]) (RowL.cells (rg5.up b') rfl) (by rfl) (by rfl))) rfl rfl ?_
      refine GG.val (fun w' b' => R.field rfl rfl (I.fld rfl)) rfl rfl ?_
      refine GG.val (fun w' b' => R.load rfl rfl (I.ldNc (vs := [Value.slice a n c]) (RowL.cells (ra11.up b') rfl) (by rfl) (by rfl))) rfl rfl ?_
      refine GG.val (fun w' b' => R.move rfl rfl) rfl rfl ?_
      refine GG.call (fun w' => (R.call rfl rfl rfl)) rfl rfl (fun w' b' => (hPa w' (qn.trans (b'.mono qn.size))).mono fun e W' h => ⟨h.1, b'.trans (h.2.mono b'.size)⟩) ?_
      refine GG.val (fun w' b' => R.neSF (p := (↑k : Int) = ↑(keyN s i) ∧ (↑p : Int) = ↑(ptrN s i)) (bs := [decide ((↑k : Int) = ↑(keyN s i)), decide ((↑p : Int) = ↑(ptrN s i))]) rfl rfl rfl rfl (by kernel_rfl) (by kernel_rfl) (by simp) (by first | assumption | omega | exact ⟨rfl, rfl⟩ | exact fun h => h ⟨rfl, rfl⟩)) rfl rfl ?_
      refine GG.val (fun w' b' => R.move rfl rfl) rfl rfl ?_
      refine GG.skip rfl rfl ?_
      refine GG.skip rfl rfl ?_
      refine GG.skip rfl rfl ?_
      refine GG.skip rfl rfl ?_
      refine GG.val (fun w' b' => R.pick rfl rfl rfl) rfl rfl ?_
      refine GG.val (fun w' b' => R.move rfl rfl) rfl rfl ?_
      refine GG.skip rfl rfl ?_
      refine GG.skip rfl rfl ?_
      refine GG.skip rfl rfl ?_
      refine GG.skip rfl rfl ?_
      refine GG.skip rfl rfl ?_
      refine GG.skip rfl rfl ?_
      refine GG.skip rfl rfl ?_
      refine GG.skip rfl rfl ?_
      refine GG.skip rfl rfl ?_
      refine GG.skip rfl rfl ?_
      refine GG.skip rfl rfl ?_
      refine GG.skip rfl rfl ?_
      refine GG.skip rfl rfl ?_
      refine GG.val (fun w' b' => R.pick rfl rfl rfl) rfl rfl ?_
      refine GG.nilQ (fun Wg15 bg14 => ?_)
      have zbg14 := bg14.size
      replace bg2 := bg2.trans (bg14.mono bg2.size)
      replace q := q.trans (bg14.mono q.size)
      replace qP := qP.trans (bg14.mono qP.size)
      replace ra11 := ra11.up bg14
      replace m1 := m1.up bg14
      replace qn := qn.trans (bg14.mono qn.size)
      replace rg5 := rg5.up bg14
      refine EE.thenN ?_
      refine CC.yes rfl ?_
      refine CC.seq ?_
      refine CC.region ?_
      refine LL.val (R.assign rfl rfl) rfl rfl rfl ?_
      refine LL.nilS ?_
      refine CC.ret ?_
      refine EE.thenR ?_
      refine EE.inR ?_
      refine EE.thenR ?_
      refine EE.thenR ?_
      refine EE.inR ?_
      refine EE.thenR ?_
      refine EE.ret _ rfl rfl ?_
      exact ⟨_, rfl, by simp [hno], q⟩
  obtain ⟨hA1, hA2⟩ := hA
  by_cases hB : p ∈ left :: (ps.take i).map (·.2)
  case pos =>
    have hno := bad fun hg => hg.2.1 (by rw [← hA2]; exact hB)
    refine CC.seq ?_
    refine CC.region ?_
    refine LL.val (R.ltT rfl rfl rfl (by omega)) rfl rfl rfl ?_
    refine LL.nilS ?_
    refine CC.seq ?_
    refine CC.yes rfl ?_
    refine CC.skip ?_
    refine EE.thenN ?_
    refine CC.seq ?_
    refine CC.block ?_
    refine CC.seq ?_
    refine CC.region ?_
    refine LL.val (R.move rfl rfl) rfl rfl rfl ?_
    refine LL.val (R.index rfl rfl rfl (I.ixS rfl (by omega))) rfl rfl rfl ?_
    refine LL.val (R.load rfl rfl (I.ldM (by assumption) rfl rfl)) rfl rfl rfl ?_
    have lh1 := ra11.lt
    refine LL.alloc ([Value.int IntKind.u64 0, Value.int IntKind.u64 0]) rfl rfl rfl rfl rfl ?_
    intro Wh3 gh4 egh4 rh5 zh6 bh2
    replace q := q.trans (bh2.mono q.size)
    replace qP := qP.trans (bh2.mono qP.size)
    replace ra11 := ra11.up bh2
    replace m1 := m1.up bh2
    replace qn := qn.trans (bh2.mono qn.size)
    refine LL.val (R.assign rfl rfl) rfl rfl rfl ?_
    refine LL.storeN (vs := [Value.int IntKind.u64 ↑k, Value.int IntKind.u64 ↑p]) rfl rfl rfl rfl rh5 (by exact Nat.le_of_ble_eq_true rfl) (ones_of rfl) rfl rfl ?_
    intro Wh8 rh9 bh7 zh10
    have hlbh7 := rh5.lt
    replace rh9 : RowL Wh8 _ 46 [Value.int IntKind.u64 ↑k, Value.int IntKind.u64 ↑p] := rh9
    clear rh5
    replace bh2 := bh2.grown bh7 bh2.size (by rintro k ⟨⟩; omega)
    replace q := q.grown bh7 q.size (by rintro k ⟨⟩; omega)
    replace qP := qP.grown bh7 qP.size (by rintro k ⟨⟩; omega)
    replace ra11 := ra11.gr bh7 (by have := ra11.lt; omega)
    replace m1 := m1.gr bh7 (by have := m1.lt; omega)
    replace qn := qn.grown bh7 qn.size (by rintro k ⟨⟩; omega)
    have rh5 := rh9
    clear rh9
    refine LL.nilS ?_
    refine CC.seq ?_
    refine CC.seq ?_
    refine CC.grow (by kernel_rfl) (by kernel_rfl) ?_
    refine GG.val (fun w' b' => R.load rfl rfl (I.ldNc (vs := [Value.int IntKind.u64 ↑k, Value.int IntKind.u64 ↑p]) (RowL.cells (rh5.up b') rfl) (by rfl) (by rfl))) rfl rfl ?_
    refine GG.val (fun w' b' => R.field rfl rfl (I.fld rfl)) rfl rfl ?_
    refine GG.val (fun w' b' => R.load rfl rfl (I.ldNc (vs := [Value.slice a n c]) (RowL.cells (ra11.up b') rfl) (by rfl) (by rfl))) rfl rfl ?_
    refine GG.val (fun w' b' => R.move rfl rfl) rfl rfl ?_
    refine GG.call (fun w' => (R.call rfl rfl rfl)) rfl rfl (fun w' b' => (hPa w' (qn.trans (b'.mono qn.size))).mono fun e W' h => ⟨h.1, b'.trans (h.2.mono b'.size)⟩) ?_
    refine GG.val (fun w' b' => R.neST (p := (↑k : Int) = ↑(keyN s i) ∧ (↑p : Int) = ↑(ptrN s i)) (bs := [decide ((↑k : Int) = ↑(keyN s i)), decide ((↑p : Int) = ↑(ptrN s i))]) rfl rfl rfl rfl (by kernel_rfl) (by kernel_rfl) (by simp) (by first | assumption | omega | exact ⟨rfl, rfl⟩ | exact fun h => h ⟨rfl, rfl⟩)) rfl rfl ?_
    refine GG.val (fun w' b' => R.move rfl rfl) rfl rfl ?_
    refine GG.val (fun w' b' => R.field rfl rfl (I.fld rfl)) rfl rfl ?_
    refine GG.val (fun w' b' => R.load rfl rfl (I.ld1 rfl (RowL.cell (rh5.up b') rfl))) rfl rfl ?_
    refine GG.val (fun w' b' => R.move rfl rfl) rfl rfl ?_
    refine GG.callDT (fun w' => (R.call rfl rfl rfl)) rfl rfl (fun w' b' => (hAm w' (qn.trans (b'.mono qn.size))).mono fun e W' h => ⟨h.1, h.2 ▸ b'⟩) (by first | assumption | omega) ?_
    refine GG.val (fun w' b' => R.pick rfl rfl rfl) rfl rfl ?_
    refine GG.val (fun w' b' => R.move rfl rfl) rfl rfl ?_
    refine GG.skip rfl rfl ?_
    refine GG.skip rfl rfl ?_
    refine GG.skip rfl rfl ?_
    refine GG.skip rfl rfl ?_
    refine GG.skip rfl rfl ?_
    refine GG.skip rfl rfl ?_
    refine GG.skip rfl rfl ?_
    refine GG.skip rfl rfl ?_
    refine GG.skip rfl rfl ?_
    refine GG.skip rfl rfl ?_
    refine GG.skip rfl rfl ?_
    refine GG.skip rfl rfl ?_
    refine GG.skip rfl rfl ?_
    refine GG.val (fun w' b' => R.pick rfl rfl rfl) rfl rfl ?_
    refine GG.nilQ (fun Wh15 bh14 => ?_)
    have zbh14 := bh14.size
    replace bh2 := bh2.trans (bh14.mono bh2.size)
    replace q := q.trans (bh14.mono q.size)
    replace qP := qP.trans (bh14.mono qP.size)
    replace ra11 := ra11.up bh14
    replace m1 := m1.up bh14
    replace qn := qn.trans (bh14.mono qn.size)
    replace rh5 := rh5.up bh14
    refine EE.thenN ?_
    refine CC.yes rfl ?_
    refine CC.seq ?_
    refine CC.region ?_
    refine LL.val (R.assign rfl rfl) rfl rfl rfl ?_
    refine LL.nilS ?_
    refine CC.ret ?_
    refine EE.thenR ?_
    refine EE.inR ?_
    refine EE.thenR ?_
    refine EE.thenR ?_
    refine EE.inR ?_
    refine EE.thenR ?_
    refine EE.ret _ rfl rfl ?_
    exact ⟨_, rfl, by simp [hno], q⟩
  have fin : ∀ (v' : Value) (X : World), OwnsT uE 1 X Wa86.heap.size 25 v' (left :: (ps.take i).map (·.2) ++ [p]) → OwnsT uE 1 X Wa86.heap.size 25 v' (left :: (ps.take (i + 1)).map (·.2)) := fun v' X o => by
    rw [List.take_add_one, hx, List.map_append]
    exact o
  have hgd' : goodP left s ps i → ∀ j, j < i + 1 → goodP left s ps j := fun hg j hj => by
    by_cases e : j = i
    · subst e; exact hg
    · exact hgd j (by omega)
  clear hgd
  by_cases hi0 : i = 0
  · subst hi0
    have hg := hgd' ⟨by rw [hx, hA1, hA2]; rfl, by rw [← hA2]; exact hB, fun h => absurd h (Nat.lt_irrefl 0)⟩
    clear hgd'
    refine CC.seq ?_
    refine CC.region ?_
    refine LL.val (R.ltT rfl rfl rfl (by omega)) rfl rfl rfl ?_
    refine LL.nilS ?_
    refine CC.seq ?_
    refine CC.yes rfl ?_
    refine CC.skip ?_
    refine EE.thenN ?_
    refine CC.seq ?_
    refine CC.block ?_
    refine CC.seq ?_
    refine CC.region ?_
    refine LL.val (R.move rfl rfl) rfl rfl rfl ?_
    refine LL.val (R.index rfl rfl rfl (I.ixSc rfl rfl (by omega))) rfl rfl rfl ?_
    refine LL.val (R.load rfl rfl (I.ldM (by assumption) rfl rfl)) rfl rfl rfl ?_
    have li1 := ra11.lt
    refine LL.alloc ([Value.int IntKind.u64 0, Value.int IntKind.u64 0]) rfl rfl rfl rfl rfl ?_
    intro Wi3 gi4 egi4 ri5 zi6 bi2
    replace q := q.trans (bi2.mono q.size)
    replace qP := qP.trans (bi2.mono qP.size)
    replace ra11 := ra11.up bi2
    replace qn := qn.trans (bi2.mono qn.size)
    replace m1 := m1.up bi2
    refine LL.val (R.assign rfl rfl) rfl rfl rfl ?_
    refine LL.storeN (vs := [Value.int IntKind.u64 ↑k, Value.int IntKind.u64 ↑p]) rfl rfl rfl rfl ri5 (by exact Nat.le_of_ble_eq_true rfl) (ones_of rfl) rfl rfl ?_
    intro Wi8 ri9 bi7 zi10
    have hlbi7 := ri5.lt
    replace ri9 : RowL Wi8 _ 46 [Value.int IntKind.u64 ↑k, Value.int IntKind.u64 ↑p] := ri9
    clear ri5
    replace bi2 := bi2.grown bi7 bi2.size (by rintro k ⟨⟩; omega)
    replace q := q.grown bi7 q.size (by rintro k ⟨⟩; omega)
    replace qP := qP.grown bi7 qP.size (by rintro k ⟨⟩; omega)
    replace ra11 := ra11.gr bi7 (by have := ra11.lt; omega)
    replace qn := qn.grown bi7 qn.size (by rintro k ⟨⟩; omega)
    replace m1 := m1.gr bi7 (by have := m1.lt; omega)
    have ri5 := ri9
    clear ri9
    refine LL.nilS ?_
    refine CC.seq ?_
    refine CC.seq ?_
    refine CC.grow (by kernel_rfl) (by kernel_rfl) ?_
    refine GG.val (fun w' b' => R.load rfl rfl (I.ldNc (vs := [Value.int IntKind.u64 ↑k, Value.int IntKind.u64 ↑p]) (RowL.cells (ri5.up b') rfl) (by rfl) (by rfl))) rfl rfl ?_
    refine GG.val (fun w' b' => R.field rfl rfl (I.fld rfl)) rfl rfl ?_
    refine GG.val (fun w' b' => R.load rfl rfl (I.ldNc (vs := [Value.slice a n c]) (RowL.cells (ra11.up b') rfl) (by rfl) (by rfl))) rfl rfl ?_
    refine GG.val (fun w' b' => R.move rfl rfl) rfl rfl ?_
    refine GG.call (fun w' => (R.call rfl rfl rfl)) rfl rfl (fun w' b' => (hPa w' (qn.trans (b'.mono qn.size))).mono fun e W' h => ⟨h.1, b'.trans (h.2.mono b'.size)⟩) ?_
    refine GG.val (fun w' b' => R.neST (p := (↑k : Int) = ↑(keyN s 0) ∧ (↑p : Int) = ↑(ptrN s 0)) (bs := [decide ((↑k : Int) = ↑(keyN s 0)), decide ((↑p : Int) = ↑(ptrN s 0))]) rfl rfl rfl rfl (by kernel_rfl) (by kernel_rfl) (by simp) (by first | assumption | omega | exact ⟨rfl, rfl⟩ | exact fun h => h ⟨rfl, rfl⟩)) rfl rfl ?_
    refine GG.val (fun w' b' => R.move rfl rfl) rfl rfl ?_
    refine GG.val (fun w' b' => R.field rfl rfl (I.fld rfl)) rfl rfl ?_
    refine GG.val (fun w' b' => R.load rfl rfl (I.ld1 rfl (RowL.cell (ri5.up b') rfl))) rfl rfl ?_
    refine GG.val (fun w' b' => R.move rfl rfl) rfl rfl ?_
    refine GG.callDF (fun w' => (R.call rfl rfl rfl)) rfl rfl (fun w' b' => (hAm w' (qn.trans (b'.mono qn.size))).mono fun e W' h => ⟨h.1, h.2 ▸ b'⟩) (by first | assumption | omega) ?_
    refine GG.val (fun w' b' => R.pick rfl rfl rfl) rfl rfl ?_
    refine GG.val (fun w' b' => R.move rfl rfl) rfl rfl ?_
    refine GG.val (fun w' b' => R.move rfl rfl) rfl rfl ?_
    refine GG.val (fun w' b' => R.gtF rfl rfl rfl (by omega)) rfl rfl ?_
    refine GG.val (fun w' b' => R.move rfl rfl) rfl rfl ?_
    refine GG.skip rfl rfl ?_
    refine GG.skip rfl rfl ?_
    refine GG.skip rfl rfl ?_
    refine GG.skip rfl rfl ?_
    refine GG.skip rfl rfl ?_
    refine GG.skip rfl rfl ?_
    refine GG.skip rfl rfl ?_
    refine GG.skip rfl rfl ?_
    refine GG.skip rfl rfl ?_
    refine GG.val (fun w' b' => R.pick rfl rfl rfl) rfl rfl ?_
    refine GG.val (fun w' b' => R.pick rfl rfl rfl) rfl rfl ?_
    refine GG.nilQ (fun Wi15 bi14 => ?_)
    have zbi14 := bi14.size
    replace bi2 := bi2.trans (bi14.mono bi2.size)
    replace q := q.trans (bi14.mono q.size)
    replace qP := qP.trans (bi14.mono qP.size)
    replace ra11 := ra11.up bi14
    replace qn := qn.trans (bi14.mono qn.size)
    replace m1 := m1.up bi14
    replace ri5 := ri5.up bi14
    refine EE.thenN ?_
    refine CC.no rfl ?_
    refine CC.skip ?_
    refine EE.thenN ?_
    refine CC.region ?_
    refine LL.val (R.move rfl rfl) rfl rfl rfl ?_
    refine LL.val (R.field rfl rfl (I.fld rfl)) rfl rfl rfl ?_
    refine LL.val (R.load rfl rfl (I.ld1 rfl (RowL.cell ri5 rfl))) rfl rfl rfl ?_
    have li16 := ra11.lt
    have li17 := ri5.lt
    refine LL.lit (e := 25) [Value.int IntKind.u64 ↑p] 1 rfl rfl (fun _ => by kernel_rfl) rfl rfl ?_
    intro Wi19 gi20 egi20 ri21 zi22 bi18
    replace bi14 := bi14.trans (bi18.mono bi14.size)
    replace bi2 := bi2.trans (bi18.mono bi2.size)
    replace q := q.trans (bi18.mono q.size)
    replace qP := qP.trans (bi18.mono qP.size)
    replace ra11 := ra11.up bi18
    replace qn := qn.trans (bi18.mono qn.size)
    replace m1 := m1.up bi18
    replace ri5 := ri5.up bi18
    refine LL.appendT2 rfl rfl uEnc ElU (ohF _ qn) (us := [p]) (RowL.readsT uEnc (ts := [p]) (by assumption) 1 (Nat.le_refl _)) (by rw [hlh]; simp only [List.length_cons, List.length_nil, maxLen]; omega) (by rw [hlh]; simp only [List.length_cons, List.length_nil]; omega) (by omega) rfl rfl ?_
    intro v' Wc o' gr hv'
    have og := own_ge (ohF _ qn)
    have zgr := gr.size
    replace ra11 := ra11.grO gr (fun e => by have := og ga10 e; omega)
    replace q := q.grown gr q.size (fun j ej => by have := og j ej; omega)
    replace qP := qP.grown gr qP.size (fun j ej => by have := og j ej; omega)
    replace o' := fin _ _ o'
    clear gr hv' m1 qn
    refine LL.val (R.assign rfl rfl) rfl rfl rfl ?_
    refine LL.nil ?_
    refine EE.inN ?_
    refine EE.thenN ?_
    refine CC.region ?_
    refine LL.val (R.addIz (z := 1) rfl rfl rfl (by decide) (by decide)) rfl rfl rfl ?_
    refine LL.val (R.move rfl rfl) rfl rfl rfl ?_
    refine LL.nil ?_
    exact EE.round (0 + 1, v') ⟨rfl, rfl, rfl, rfl, rfl, rfl, trivial⟩ ⟨by show 0 + 1 ≤ ps.length; omega, q, qP, ra11, o', by omega, hg⟩ (by show ps.length - (0 + 1) < ps.length - 0; omega)
  obtain ⟨⟨ky, py⟩, hy⟩ : ∃ y, ps[i - 1]? = some y := ⟨_, List.getElem?_eq_getElem (by omega)⟩
  have cK : ∀ X, Below Wa32.heap.size Wa32 X → X.cell? ⟨bP, oP + (i - 1) * 2, none⟩ = some (.int .u64 (ky : Int)) := fun X b => ((hpF X b).elemN prEnc hy).cell (j := 0) rfl
  by_cases hC : ky < keyN s i
  case neg =>
    have hno := bad fun hg => hC (hg.2.2 (by omega) _ hy)
    refine CC.seq ?_
    refine CC.region ?_
    refine LL.val (R.ltT rfl rfl rfl (by omega)) rfl rfl rfl ?_
    refine LL.nilS ?_
    refine CC.seq ?_
    refine CC.yes rfl ?_
    refine CC.skip ?_
    refine EE.thenN ?_
    refine CC.seq ?_
    refine CC.block ?_
    refine CC.seq ?_
    refine CC.region ?_
    refine LL.val (R.move rfl rfl) rfl rfl rfl ?_
    refine LL.val (R.index rfl rfl rfl (I.ixS rfl (by omega))) rfl rfl rfl ?_
    refine LL.val (R.load rfl rfl (I.ldM (by assumption) rfl rfl)) rfl rfl rfl ?_
    have lk1 := ra11.lt
    refine LL.alloc ([Value.int IntKind.u64 0, Value.int IntKind.u64 0]) rfl rfl rfl rfl rfl ?_
    intro Wk3 gk4 egk4 rk5 zk6 bk2
    replace q := q.trans (bk2.mono q.size)
    replace qP := qP.trans (bk2.mono qP.size)
    replace ra11 := ra11.up bk2
    replace m1 := m1.up bk2
    replace qn := qn.trans (bk2.mono qn.size)
    refine LL.val (R.assign rfl rfl) rfl rfl rfl ?_
    refine LL.storeN (vs := [Value.int IntKind.u64 ↑k, Value.int IntKind.u64 ↑p]) rfl rfl rfl rfl rk5 (by exact Nat.le_of_ble_eq_true rfl) (ones_of rfl) rfl rfl ?_
    intro Wk8 rk9 bk7 zk10
    have hlbk7 := rk5.lt
    replace rk9 : RowL Wk8 _ 46 [Value.int IntKind.u64 ↑k, Value.int IntKind.u64 ↑p] := rk9
    clear rk5
    replace bk2 := bk2.grown bk7 bk2.size (by rintro k ⟨⟩; omega)
    replace q := q.grown bk7 q.size (by rintro k ⟨⟩; omega)
    replace qP := qP.grown bk7 qP.size (by rintro k ⟨⟩; omega)
    replace ra11 := ra11.gr bk7 (by have := ra11.lt; omega)
    replace m1 := m1.gr bk7 (by have := m1.lt; omega)
    replace qn := qn.grown bk7 qn.size (by rintro k ⟨⟩; omega)
    have rk5 := rk9
    clear rk9
    refine LL.nilS ?_
    refine CC.seq ?_
    refine CC.seq ?_
    refine CC.grow (by kernel_rfl) (by kernel_rfl) ?_
    refine GG.val (fun w' b' => R.load rfl rfl (I.ldNc (vs := [Value.int IntKind.u64 ↑k, Value.int IntKind.u64 ↑p]) (RowL.cells (rk5.up b') rfl) (by rfl) (by rfl))) rfl rfl ?_
    refine GG.val (fun w' b' => R.field rfl rfl (I.fld rfl)) rfl rfl ?_
    refine GG.val (fun w' b' => R.load rfl rfl (I.ldNc (vs := [Value.slice a n c]) (RowL.cells (ra11.up b') rfl) (by rfl) (by rfl))) rfl rfl ?_
    refine GG.val (fun w' b' => R.move rfl rfl) rfl rfl ?_
    refine GG.call (fun w' => (R.call rfl rfl rfl)) rfl rfl (fun w' b' => (hPa w' (qn.trans (b'.mono qn.size))).mono fun e W' h => ⟨h.1, b'.trans (h.2.mono b'.size)⟩) ?_
    refine GG.val (fun w' b' => R.neST (p := (↑k : Int) = ↑(keyN s i) ∧ (↑p : Int) = ↑(ptrN s i)) (bs := [decide ((↑k : Int) = ↑(keyN s i)), decide ((↑p : Int) = ↑(ptrN s i))]) rfl rfl rfl rfl (by kernel_rfl) (by kernel_rfl) (by simp) (by first | assumption | omega | exact ⟨rfl, rfl⟩ | exact fun h => h ⟨rfl, rfl⟩)) rfl rfl ?_
    refine GG.val (fun w' b' => R.move rfl rfl) rfl rfl ?_
    refine GG.val (fun w' b' => R.field rfl rfl (I.fld rfl)) rfl rfl ?_
    refine GG.val (fun w' b' => R.load rfl rfl (I.ld1 rfl (RowL.cell (rk5.up b') rfl))) rfl rfl ?_
    refine GG.val (fun w' b' => R.move rfl rfl) rfl rfl ?_
    refine GG.callDF (fun w' => (R.call rfl rfl rfl)) rfl rfl (fun w' b' => (hAm w' (qn.trans (b'.mono qn.size))).mono fun e W' h => ⟨h.1, h.2 ▸ b'⟩) (by first | assumption | omega) ?_
    refine GG.val (fun w' b' => R.pick rfl rfl rfl) rfl rfl ?_
    refine GG.val (fun w' b' => R.move rfl rfl) rfl rfl ?_
    refine GG.val (fun w' b' => R.move rfl rfl) rfl rfl ?_
    refine GG.val (fun w' b' => R.gtT rfl rfl rfl (by omega)) rfl rfl ?_
    refine GG.val (fun w' b' => R.move rfl rfl) rfl rfl ?_
    refine GG.val (fun w' b' => R.field rfl rfl (I.fld rfl)) rfl rfl ?_
    refine GG.val (fun w' b' => R.load rfl rfl (I.ld1 rfl (RowL.cell (rk5.up b') rfl))) rfl rfl ?_
    refine GG.val (fun w' b' => R.move rfl rfl) rfl rfl ?_
    refine GG.val (fun w' b' => R.move rfl rfl) rfl rfl ?_
    refine GG.val (fun w' b' => R.subNc rfl rfl rfl rfl (by omega) (by omega)) rfl rfl ?_
    refine GG.val (fun w' b' => R.index rfl rfl rfl (I.ixS rfl (by omega))) rfl rfl ?_
    refine GG.val (fun w' b' => R.field rfl rfl (I.fld rfl)) rfl rfl ?_
    (refine GG.val (fun w' b' => R.load rfl rfl (I.ld1 rfl (cK w' (qP.trans (b'.mono qP.size))))) rfl rfl ?_)
    refine GG.val (fun w' b' => R.leT rfl rfl rfl (by omega)) rfl rfl ?_
    refine GG.val (fun w' b' => R.pick rfl rfl rfl) rfl rfl ?_
    refine GG.val (fun w' b' => R.pick rfl rfl rfl) rfl rfl ?_
    refine GG.nilQ (fun Wk15 bk14 => ?_)
    have zbk14 := bk14.size
    replace bk2 := bk2.trans (bk14.mono bk2.size)
    replace q := q.trans (bk14.mono q.size)
    replace qP := qP.trans (bk14.mono qP.size)
    replace ra11 := ra11.up bk14
    replace m1 := m1.up bk14
    replace qn := qn.trans (bk14.mono qn.size)
    replace rk5 := rk5.up bk14
    refine EE.thenN ?_
    refine CC.yes rfl ?_
    refine CC.seq ?_
    refine CC.region ?_
    refine LL.val (R.assign rfl rfl) rfl rfl rfl ?_
    refine LL.nilS ?_
    refine CC.ret ?_
    refine EE.thenR ?_
    refine EE.inR ?_
    refine EE.thenR ?_
    refine EE.thenR ?_
    refine EE.inR ?_
    refine EE.thenR ?_
    refine EE.ret _ rfl rfl ?_
    exact ⟨_, rfl, by simp [hno], q⟩
  have hg := hgd' ⟨by rw [hx, hA1, hA2]; rfl, by rw [← hA2]; exact hB, fun _ y e => by rw [hy] at e; cases e; exact hC⟩
  clear hgd' bad hx1 app
  refine CC.seq ?_
  refine CC.region ?_
  refine LL.val (R.ltT rfl rfl rfl (by omega)) rfl rfl rfl ?_
  refine LL.nilS ?_
  refine CC.seq ?_
  refine CC.yes rfl ?_
  refine CC.skip ?_
  refine EE.thenN ?_
  refine CC.seq ?_
  refine CC.block ?_
  refine CC.seq ?_
  refine CC.region ?_
  refine LL.val (R.move rfl rfl) rfl rfl rfl ?_
  refine LL.val (R.index rfl rfl rfl (I.ixS rfl (by omega))) rfl rfl rfl ?_
  refine LL.val (R.load rfl rfl (I.ldM (by assumption) rfl rfl)) rfl rfl rfl ?_
  have ll1 := ra11.lt
  refine LL.alloc ([Value.int IntKind.u64 0, Value.int IntKind.u64 0]) rfl rfl rfl rfl rfl ?_
  intro Wl3 gl4 egl4 rl5 zl6 bl2
  replace q := q.trans (bl2.mono q.size)
  replace qP := qP.trans (bl2.mono qP.size)
  replace ra11 := ra11.up bl2
  replace m1 := m1.up bl2
  replace qn := qn.trans (bl2.mono qn.size)
  refine LL.val (R.assign rfl rfl) rfl rfl rfl ?_
  refine LL.storeN (vs := [Value.int IntKind.u64 ↑k, Value.int IntKind.u64 ↑p]) rfl rfl rfl rfl rl5 (by exact Nat.le_of_ble_eq_true rfl) (ones_of rfl) rfl rfl ?_
  intro Wl8 rl9 bl7 zl10
  have hlbl7 := rl5.lt
  replace rl9 : RowL Wl8 _ 46 [Value.int IntKind.u64 ↑k, Value.int IntKind.u64 ↑p] := rl9
  clear rl5
  replace bl2 := bl2.grown bl7 bl2.size (by rintro k ⟨⟩; omega)
  replace q := q.grown bl7 q.size (by rintro k ⟨⟩; omega)
  replace qP := qP.grown bl7 qP.size (by rintro k ⟨⟩; omega)
  replace ra11 := ra11.gr bl7 (by have := ra11.lt; omega)
  replace m1 := m1.gr bl7 (by have := m1.lt; omega)
  replace qn := qn.grown bl7 qn.size (by rintro k ⟨⟩; omega)
  have rl5 := rl9
  clear rl9
  refine LL.nilS ?_
  refine CC.seq ?_
  refine CC.seq ?_
  refine CC.grow (by kernel_rfl) (by kernel_rfl) ?_
  refine GG.val (fun w' b' => R.load rfl rfl (I.ldNc (vs := [Value.int IntKind.u64 ↑k, Value.int IntKind.u64 ↑p]) (RowL.cells (rl5.up b') rfl) (by rfl) (by rfl))) rfl rfl ?_
  refine GG.val (fun w' b' => R.field rfl rfl (I.fld rfl)) rfl rfl ?_
  refine GG.val (fun w' b' => R.load rfl rfl (I.ldNc (vs := [Value.slice a n c]) (RowL.cells (ra11.up b') rfl) (by rfl) (by rfl))) rfl rfl ?_
  refine GG.val (fun w' b' => R.move rfl rfl) rfl rfl ?_
  refine GG.call (fun w' => (R.call rfl rfl rfl)) rfl rfl (fun w' b' => (hPa w' (qn.trans (b'.mono qn.size))).mono fun e W' h => ⟨h.1, b'.trans (h.2.mono b'.size)⟩) ?_
  refine GG.val (fun w' b' => R.neST (p := (↑k : Int) = ↑(keyN s i) ∧ (↑p : Int) = ↑(ptrN s i)) (bs := [decide ((↑k : Int) = ↑(keyN s i)), decide ((↑p : Int) = ↑(ptrN s i))]) rfl rfl rfl rfl (by kernel_rfl) (by kernel_rfl) (by simp) (by first | assumption | omega | exact ⟨rfl, rfl⟩ | exact fun h => h ⟨rfl, rfl⟩)) rfl rfl ?_
  refine GG.val (fun w' b' => R.move rfl rfl) rfl rfl ?_
  refine GG.val (fun w' b' => R.field rfl rfl (I.fld rfl)) rfl rfl ?_
  refine GG.val (fun w' b' => R.load rfl rfl (I.ld1 rfl (RowL.cell (rl5.up b') rfl))) rfl rfl ?_
  refine GG.val (fun w' b' => R.move rfl rfl) rfl rfl ?_
  refine GG.callDF (fun w' => (R.call rfl rfl rfl)) rfl rfl (fun w' b' => (hAm w' (qn.trans (b'.mono qn.size))).mono fun e W' h => ⟨h.1, h.2 ▸ b'⟩) (by first | assumption | omega) ?_
  refine GG.val (fun w' b' => R.pick rfl rfl rfl) rfl rfl ?_
  refine GG.val (fun w' b' => R.move rfl rfl) rfl rfl ?_
  refine GG.val (fun w' b' => R.move rfl rfl) rfl rfl ?_
  refine GG.val (fun w' b' => R.gtT rfl rfl rfl (by omega)) rfl rfl ?_
  refine GG.val (fun w' b' => R.move rfl rfl) rfl rfl ?_
  refine GG.val (fun w' b' => R.field rfl rfl (I.fld rfl)) rfl rfl ?_
  refine GG.val (fun w' b' => R.load rfl rfl (I.ld1 rfl (RowL.cell (rl5.up b') rfl))) rfl rfl ?_
  refine GG.val (fun w' b' => R.move rfl rfl) rfl rfl ?_
  refine GG.val (fun w' b' => R.move rfl rfl) rfl rfl ?_
  refine GG.val (fun w' b' => R.subNc rfl rfl rfl rfl (by omega) (by omega)) rfl rfl ?_
  refine GG.val (fun w' b' => R.index rfl rfl rfl (I.ixS rfl (by omega))) rfl rfl ?_
  refine GG.val (fun w' b' => R.field rfl rfl (I.fld rfl)) rfl rfl ?_
  (refine GG.val (fun w' b' => R.load rfl rfl (I.ld1 rfl (cK w' (qP.trans (b'.mono qP.size))))) rfl rfl ?_)
  refine GG.val (fun w' b' => R.leF rfl rfl rfl (by omega)) rfl rfl ?_
  refine GG.val (fun w' b' => R.pick rfl rfl rfl) rfl rfl ?_
  refine GG.val (fun w' b' => R.pick rfl rfl rfl) rfl rfl ?_
  refine GG.nilQ (fun Wl15 bl14 => ?_)
  have zbl14 := bl14.size
  replace bl2 := bl2.trans (bl14.mono bl2.size)
  replace q := q.trans (bl14.mono q.size)
  replace qP := qP.trans (bl14.mono qP.size)
  replace ra11 := ra11.up bl14
  replace m1 := m1.up bl14
  replace qn := qn.trans (bl14.mono qn.size)
  replace rl5 := rl5.up bl14
  refine EE.thenN ?_
  refine CC.no rfl ?_
  refine CC.skip ?_
  refine EE.thenN ?_
  refine CC.region ?_
  refine LL.val (R.move rfl rfl) rfl rfl rfl ?_
  refine LL.val (R.field rfl rfl (I.fld rfl)) rfl rfl rfl ?_
  refine LL.val (R.load rfl rfl (I.ld1 rfl (RowL.cell rl5 rfl))) rfl rfl rfl ?_
  have ll16 := ra11.lt
  have ll17 := rl5.lt
  refine LL.lit (e := 25) [Value.int IntKind.u64 ↑p] 1 rfl rfl (fun _ => by kernel_rfl) rfl rfl ?_
  intro Wl19 gl20 egl20 rl21 zl22 bl18
  replace bl14 := bl14.trans (bl18.mono bl14.size)
  replace bl2 := bl2.trans (bl18.mono bl2.size)
  replace q := q.trans (bl18.mono q.size)
  replace qP := qP.trans (bl18.mono qP.size)
  replace ra11 := ra11.up bl18
  replace m1 := m1.up bl18
  replace qn := qn.trans (bl18.mono qn.size)
  replace rl5 := rl5.up bl18
  refine LL.appendT2 rfl rfl uEnc ElU (ohF _ qn) (us := [p]) (RowL.readsT uEnc (ts := [p]) (by assumption) 1 (Nat.le_refl _)) (by rw [hlh]; simp only [List.length_cons, List.length_nil, maxLen]; omega) (by rw [hlh]; simp only [List.length_cons, List.length_nil]; omega) (by omega) rfl rfl ?_
  intro v' Wc o' gr hv'
  have og := own_ge (ohF _ qn)
  have zgr := gr.size
  replace ra11 := ra11.grO gr (fun e => by have := og ga10 e; omega)
  replace q := q.grown gr q.size (fun j ej => by have := og j ej; omega)
  replace qP := qP.grown gr qP.size (fun j ej => by have := og j ej; omega)
  replace o' := fin _ _ o'
  clear gr hv' m1 qn
  refine LL.val (R.assign rfl rfl) rfl rfl rfl ?_
  refine LL.nil ?_
  refine EE.inN ?_
  refine EE.thenN ?_
  refine CC.region ?_
  refine LL.val (R.addNc rfl rfl rfl rfl (by omega)) rfl rfl rfl ?_
  refine LL.val (R.move rfl rfl) rfl rfl rfl ?_
  refine LL.nil ?_
  exact EE.round (i + 1, v') ⟨rfl, rfl, rfl, rfl, rfl, rfl, trivial⟩ ⟨by show i + 1 ≤ ps.length; omega, q, qP, ra11, o', by omega, hg⟩ (by show ps.length - (i + 1) < ps.length - i; omega)
end Go.Proofs.Ytfplilpefhhpnaa
/- slots: settled rows, by their slots; a key's slot; what is refused. -/
namespace Go.Proofs.Ytfplilpefhhpnaa
set_option linter.unusedVariables false
set_option linter.unusedSimpArgs false
open Go.RowKit Go.Shelf
set_option maxRecDepth 100000
set_option maxHeartbeats 8000000
/-- A settled row of so many pairs. -/
structure Stl (left : Nat) (s : List Nat) (n : Nat) : Prop where
  lt : n < s.length / 2
  ne : ∀ j, j < n → ptrN s j ≠ 0
  z : ∀ j, n ≤ j → j < s.length / 2 → ptrN s j = 0
  nl : ∀ j, j < n → ptrN s j ≠ left
  dis : ∀ i j, i < j → j < n → ptrN s i ≠ ptrN s j
  up : ∀ j, j + 1 < n → keyN s j < keyN s (j + 1)
theorem Stl.over {left : Nat} {s : List Nat} {n : Nat} (h : Stl left s n) : overN s = n := over_eq (by have := h.lt; omega) h.ne (.inr (h.z n (Nat.le_refl _) h.lt))
theorem Stl.aheadNe {left : Nat} {s : List Nat} {n j : Nat} (h : Stl left s n) (hj : j < n) : ptrN s j ≠ aheadN left s j := by
  unfold aheadN
  split
  · exact h.nl j hj
  · exact fun e => h.dis (j - 1) j (by omega) hj e.symm
theorem pairF_all {left : Nat} {s : List Nat} : ∀ {j : Nat}, (∀ i, i < j → ptrN s i ≠ aheadN left s i) → pairF left s j = (List.range j).map fun i => (i, prA s i)
  | 0, _ => rfl
  | j + 1, h => by
    rw [pairF_succ, if_neg (h j (by omega)), pairF_all (fun i hi => h i (by omega)), List.range_succ, List.map_append]
    rfl
theorem Stl.pairS {left : Nat} {s : List Nat} {n : Nat} (h : Stl left s n) : pairS left s = (List.range n).map fun i => (i, prA s i) := by
  unfold Go.Proofs.Ytfplilpefhhpnaa.pairS
  rw [h.over]
  exact pairF_all fun i hi => h.aheadNe hi
theorem Stl.pairP {left : Nat} {s : List Nat} {n : Nat} (h : Stl left s n) : pairP left s = (List.range n).map (prA s) := by
  unfold Go.Proofs.Ytfplilpefhhpnaa.pairP
  rw [h.pairS, List.map_map]
  rfl
theorem pairF_full {left : Nat} {s : List Nat} : ∀ {j : Nat}, (pairF left s j).length = j → ∀ i, i < j → ptrN s i ≠ aheadN left s i
  | 0, _, _, h => by omega
  | j + 1, hl, i, hi => by
    rw [pairF_succ] at hl
    by_cases e : ptrN s j = aheadN left s j
    · rw [if_pos e] at hl
      have := pairF_len left s j
      omega
    · rw [if_neg e] at hl
      simp only [List.length_append, List.length_cons, List.length_nil] at hl
      by_cases hij : i = j
      · subst hij; exact e
      · exact pairF_full (j := j) (by omega) i (by omega)
theorem range_map_get {α : Type} {f : Nat → α} {n j : Nat} (h : j < n) : ((List.range n).map f)[j]? = some (f j) := by
  rw [List.getElem?_map, List.getElem?_range h]
  rfl
theorem setP_iff {left : Nat} {s : List Nat} : setP left s ↔ ∃ n, Stl left s n := by
  constructor
  · rintro ⟨h1, h2, h3⟩
    obtain ⟨n, en⟩ : ∃ n, (pairP left s).length = n := ⟨_, rfl⟩
    rw [en] at h1 h2 h3
    have hn : (pairF left s (overN s)).length = n := by rw [← en]; unfold pairP pairS; rw [List.length_map]
    have ho1 : n ≤ overN s := by rw [← hn]; exact pairF_len _ _ _
    have ho2 : overN s ≤ n := by
      rcases Nat.lt_or_ge n (overN s) with h | h
      · exact absurd (h3 n (Nat.le_refl _) h1) (over_ne h)
      · exact h
    have ho : overN s = n := by omega
    rw [ho] at hn
    have hne := pairF_full hn
    have hP : pairP left s = (List.range n).map (prA s) := by
      unfold pairP pairS
      rw [ho, pairF_all hne, List.map_map]
      rfl
    rw [hP] at h2
    have htk : ∀ j, j < n → ((List.range n).map (prA s)).take j = (List.range j).map (prA s) := fun j hj => by
      rw [← List.map_take, List.take_range, Nat.min_eq_left (by omega)]
    refine ⟨n, h1, fun j hj => over_ne (by omega), h3, fun j hj e => ?_, fun i j hij hj e => ?_, fun j hj => ?_⟩
    · exact (h2 j hj).2.1 (by rw [e]; exact List.mem_cons_self ..)
    · refine (h2 j hj).2.1 ?_
      rw [htk j hj]
      refine List.mem_cons_of_mem _ (List.mem_map.2 ⟨prA s i, List.mem_map.2 ⟨i, List.mem_range.2 hij, rfl⟩, e⟩)
    · exact (h2 (j + 1) hj).2.2 (by omega) (prA s j) (range_map_get (by omega))
  · rintro ⟨n, h⟩
    have hP := h.pairP
    have hl : ((List.range n).map (prA s)).length = n := by simp
    refine ⟨by rw [hP, hl]; exact h.lt, fun j hj => ?_, fun j h1 h2 => h.z j (by rw [hP, hl] at h1; exact h1) h2⟩
    rw [hP] at hj ⊢
    rw [hl] at hj
    refine ⟨range_map_get hj, fun hm => ?_, fun h0 y hy => ?_⟩
    · rcases List.mem_cons.1 hm with e | hm
      · exact h.nl j hj e
      · obtain ⟨y, hy, e⟩ := List.mem_map.1 hm
        rw [← List.map_take, List.take_range, Nat.min_eq_left (by omega)] at hy
        obtain ⟨i, hi, rfl⟩ := List.mem_map.1 hy
        exact h.dis i j (List.mem_range.1 hi) hj e
    · rw [range_map_get (by omega)] at hy
      cases hy
      have := h.up (j - 1) (by omega)
      rw [show j - 1 + 1 = j by omega] at this
      exact this
/-- A key's slot. -/
def findN (l : List (Nat × Pr)) (key : Nat) : Nat × Bool := match l.find? fun x => x.2.1 == key with
  | some x => (x.1, true)
  | none => (0, false)
theorem findN_snoc {l : List (Nat × Pr)} {key : Nat} {x : Nat × Pr} (h : ∀ y ∈ l, y.2.1 ≠ key) (hx : x.2.1 ≠ key) : ∀ y ∈ l ++ [x], y.2.1 ≠ key := fun y hy => by
  rcases List.mem_append.1 hy with hy | hy
  · exact h y hy
  · rw [List.mem_singleton.1 hy]; exact hx
theorem findN_none {l : List (Nat × Pr)} {key : Nat} (h : ∀ y ∈ l, y.2.1 ≠ key) : findN l key = (0, false) := by
  unfold findN
  rw [List.find?_eq_none.2 fun y hy => by simpa using h y hy]
theorem findN_at {l : List (Nat × Pr)} {pre t : List (Nat × Pr)} {key : Nat} {x : Nat × Pr} (h : ∀ y ∈ pre, y.2.1 ≠ key) (hx : x.2.1 = key) (hl : pre ++ [x] ++ t = l) : findN l key = (x.1, true) := by
  unfold findN
  rw [← hl, List.append_assoc, List.find?_append, List.find?_eq_none.2 fun y hy => by simpa using h y hy]
  simp [hx]
end Go.Proofs.Ytfplilpefhhpnaa
/- slots: find; refuse; what may not come in. -/
namespace Go.Proofs.Ytfplilpefhhpnaa
set_option linter.unusedVariables false
set_option linter.unusedSimpArgs false
open Go.RowKit Go.Shelf
set_option maxRecDepth 100000
set_option maxHeartbeats 4000000
theorem find_any (a : Option Addr) (n c left key : Nat) (s : List Nat) (w : World) (hv : ReadsT uE 1 w (.slice a n c) s) (hn : s.length = n) (h : n ≤ 1048576) : Calls Try.prog 57 #[rowV (.slice a n c) left, .int .u64 (key : Int)] w fun e w' => e = .returned (.tuple #[.int .i64 ((findN (pairS left s) key).1 : Int), .bool (findN (pairS left s) key).2]) ∧ Below w.heap.size w w' := by
  have q := Below.refl w.heap.size w
  have hvF : ∀ X, Below w.heap.size w X → ReadsT uE 1 X (.slice a n c) s := fun X b => hv.up b
  clear hv
  refine X.fnM Try.func57 rfl (n := 19) rfl rfl ?_
  refine CC.seq ?_
  refine CC.region ?_
  refine LL.box [Value.slice a n c, Value.int IntKind.u64 ↑left] rfl rfl rfl rfl rfl ?_
  intro W2 g3 eg3 r4 z5 b1
  replace q := q.trans (b1.mono q.size)
  have l6 := r4.lt
  refine LL.box [Value.int IntKind.u64 ↑key] rfl rfl rfl rfl rfl ?_
  intro W8 g9 eg9 r10 z11 b7
  replace r4 := r4.up b7
  replace b1 := b1.trans (b7.mono b1.size)
  replace q := q.trans (b7.mono q.size)
  have l12 := r10.lt
  have l13 := r4.lt
  refine LL.alloc ([Value.int IntKind.i64 0]) rfl rfl rfl rfl rfl ?_
  intro W15 g16 eg16 r17 z18 b14
  replace r10 := r10.up b14
  replace b7 := b7.trans (b14.mono b7.size)
  replace r4 := r4.up b14
  replace b1 := b1.trans (b14.mono b1.size)
  replace q := q.trans (b14.mono q.size)
  have l19 := r17.lt
  have l20 := r10.lt
  have l21 := r4.lt
  refine LL.alloc ([Value.bool false]) rfl rfl rfl rfl rfl ?_
  intro W23 g24 eg24 r25 z26 b22
  replace r17 := r17.up b22
  replace b14 := b14.trans (b22.mono b14.size)
  replace r10 := r10.up b22
  replace b7 := b7.trans (b22.mono b7.size)
  replace r4 := r4.up b22
  replace b1 := b1.trans (b22.mono b1.size)
  replace q := q.trans (b22.mono q.size)
  refine LL.nilS ?_
  refine CC.straight ?_
  refine CC.seq ?_
  refine CC.label ?_
  refine EE.thenN ?_
  refine CC.seq ?_
  refine CC.seq ?_
  refine CC.region ?_
  refine LL.val (R.load rfl rfl (I.ldNc (vs := [Value.slice a n c, Value.int IntKind.u64 ↑left]) (RowL.cells r4 rfl) (by rfl) (by rfl))) rfl rfl rfl ?_
  refine LL.call (R.call rfl rfl rfl) rfl rfl rfl (each_any _ _ _ _ _) ?_
  rintro e W28 ⟨g29, rfl, r30, l31, b27⟩
  refine ⟨_, rfl, ?_⟩
  have zb27 := b27.size
  replace r25 := r25.up b27
  replace b22 := b22.trans (b27.mono b22.size)
  replace r17 := r17.up b27
  replace b14 := b14.trans (b27.mono b14.size)
  replace r10 := r10.up b27
  replace b7 := b7.trans (b27.mono b7.size)
  replace r4 := r4.up b27
  replace b1 := b1.trans (b27.mono b1.size)
  replace q := q.trans (b27.mono q.size)
  refine LL.nilS ?_
  refine CC.block ?_
  have yB := q.size
  have l9 := r10.lt
  have l16 := r17.lt
  have l24 := r25.lt
  obtain ⟨bkl, hbl, hblt⟩ := bkl_row (hvF _ (Below.refl _ _)) g29
  have lbk := r30.lt
  refine CC.rangeZ (γ := Nat) (gf := 75) (lb := [.pointer (some ⟨g29, 0, none⟩)]) (encs := spE) rfl rfl (each1_gives g29 bkl a n c left s W28 r30 (hvF _ q) hn h hbl).z (Below.refl _ _) (fun k hk => by (try simp only at hk); omega) (fun _ => rfl) rfl
    (fun m (pre : List (Nat × Pr)) W' => W28.heap.size ≤ W'.heap.size ∧ Below w.heap.size w W' ∧ RowL W' g9 25 [.int .u64 (key : Int)] ∧ RowL W' g16 3 [.int .i64 0] ∧ RowL W' g24 4 [.bool false] ∧ ∀ y ∈ pre, y.2.1 ≠ key)
    (fun m (pre : List (Nat × Pr)) W' => Below w.heap.size w W' ∧ RowL W' g16 3 [.int .i64 ((findN (pairS left s) key).1 : Int)] ∧ RowL W' g24 4 [.bool (findN (pairS left s) key).2])
    (fun W' => Below w.heap.size w W' ∧ RowL W' g16 3 [.int .i64 ((findN (pairS left s) key).1 : Int)] ∧ RowL W' g24 4 [.bool (findN (pairS left s) key).2])
    (fun m m' s X Y hs ht hg => ⟨by have := ht.size; have := hs.1; omega, hs.2.1.trans (ht.below yB hs.2.1.size), ht.row hs.2.2.1 (.inl l9), ht.row hs.2.2.2.1 (.inl l16), ht.row hs.2.2.2.2.1 (.inl l24), hs.2.2.2.2.2⟩)
    (fun m m' s X Y hs ht hg => ⟨hs.1.trans (ht.below yB hs.1.size), ht.row hs.2.1 (.inl l16), ht.row hs.2.2 (.inl l24)⟩)
    ⟨Nat.le_refl _, q, r10, r17, r25, fun y hy => by cases hy⟩ ?hIA ?hIxA
    (fun x g => sl [(3, .pointer (some ⟨g9, 0, none⟩)), (4, .pointer (some ⟨g16, 0, none⟩)), (5, .pointer (some ⟨g24, 0, none⟩)), (6, .int .i64 (x.1 : Int)), (7, .pointer (some ⟨g, 0, none⟩))]) (fun x g W' => RowL W' g 46 (prE x.2) ∧ W28.heap.size ≤ g) (fun x g => fun _ W W' row h hg hr => ⟨RowL.own () W W' row h.1 hg hr, h.2⟩) ?assign ?body ?after
  case hIA =>
    rintro m xs W' rfl ⟨_, h1, _, h16, h24, hk⟩
    rw [findN_none hk]
    exact ⟨h1, h16, h24⟩
  case hIxA =>
    rintro m pre W' _ h
    exact h
  case assign =>
    rintro l' m pre x W K hm ⟨zW, h1, h9, h16, h24, hk⟩ hK
    have qa := Below.refl W.heap.size W
    have ySz := h1.size
    refine CC.seq ?_
    refine CC.region ?_
    refine LL.val (R.assign rfl rfl) rfl rfl rfl ?_
    refine LL.nilS ?_
    refine CC.region ?_
    have la1 := h9.lt
    have la2 := h16.lt
    have la3 := h24.lt
    refine LL.alloc ([Value.int IntKind.u64 0, Value.int IntKind.u64 0]) rfl rfl rfl rfl rfl ?_
    intro Wa5 ga6 ega6 ra7 za8 ba4
    replace h1 := h1.trans (ba4.mono h1.size)
    replace h9 := h9.up ba4
    replace h16 := h16.up ba4
    replace h24 := h24.up ba4
    replace qa := qa.trans (ba4.mono qa.size)
    refine LL.storeN (vs := [Value.int IntKind.u64 ↑x.2.1, Value.int IntKind.u64 ↑x.2.2]) rfl rfl rfl rfl ra7 (by exact Nat.le_of_ble_eq_true rfl) (ones_of rfl) rfl rfl ?_
    intro Wa10 ra11 ba9 za12
    have hlba9 := ra7.lt
    replace ra11 : RowL Wa10 _ 46 [Value.int IntKind.u64 ↑x.2.1, Value.int IntKind.u64 ↑x.2.2] := ra11
    clear ra7
    replace ba4 := ba4.grown ba9 ba4.size (by rintro k ⟨⟩; omega)
    replace h1 := h1.grown ba9 h1.size (by rintro k ⟨⟩; omega)
    replace h9 := h9.gr ba9 (by have := h9.lt; omega)
    replace h16 := h16.gr ba9 (by have := h16.lt; omega)
    replace h24 := h24.gr ba9 (by have := h24.lt; omega)
    replace qa := qa.grown ba9 qa.size (by rintro k ⟨⟩; omega)
    have ra7 := ra11
    clear ra11
    refine LL.nil ?_
    exact EE.thenK fun a' F => hK a' _ _ (StaysZ.of_below qa) (Keeps.of_below (fun k hk => by (try simp only at hk); omega) qa) ⟨by omega, h1, h9, h16, h24, hk⟩ (F.keep _ ⟨rfl, rfl, rfl, rfl, rfl, trivial⟩) ⟨by assumption, by omega⟩
  case body =>
    rintro l' m pre x g W hm hl' hrl ⟨zW, h1, h9, h16, h24, hk⟩ ⟨hx, hg⟩ ⟨_, rfl, tt, hp⟩
    have st := StaysZ.refl W28.heap.size m W
    have kp := Keeps.refl (fun k => k = g29 ∨ k = bkl) W
    by_cases hxk : x.2.1 = key
    · have hf := findN_at hk hxk hp
      have e1 : (x.1 : Int) = ((findN (pairS left s) key).1 : Int) := by rw [hf]
      have e2 : true = (findN (pairS left s) key).2 := by rw [hf]
      refine CC.block ?_
      refine CC.seq ?_
      refine CC.region ?_
      refine LL.val (R.field rfl rfl (I.fld rfl)) rfl rfl rfl ?_
      refine LL.val (R.load rfl rfl (I.ld1 rfl (RowL.cell hx rfl))) rfl rfl rfl ?_
      refine LL.val (R.load rfl rfl (I.ld1 rfl (RowL.cell h9 rfl))) rfl rfl rfl ?_
      refine LL.val (R.eqT rfl rfl rfl (by omega)) rfl rfl rfl ?_
      refine LL.nilS ?_
      refine CC.yes rfl ?_
      refine CC.seq ?_
      refine CC.region ?_
      refine LL.val (R.move rfl rfl) rfl rfl rfl ?_
      refine LL.store rfl rfl rfl rfl h16 (by exact Nat.le_of_ble_eq_true rfl) rfl rfl rfl rfl ?_
      intro Wb2 rb3 bb1 zb4
      have hlbb1 := h16.lt
      replace rb3 : RowL Wb2 _ 3 [Value.int IntKind.i64 ↑x.1] := rb3
      clear h16
      replace h1 := h1.grown bb1 h1.size (by rintro k ⟨⟩; omega)
      replace h9 := h9.gr bb1 (by have := h9.lt; omega)
      replace h24 := h24.gr bb1 (by have := h24.lt; omega)
      replace hx := hx.gr bb1 (by have := hx.lt; omega)
      replace st := st.trans (StaysZ.of_grown bb1 (by omega))
      replace kp := kp.trans (Keeps.of_grown bb1 fun k hk => by (try simp only at hk); omega)
      have h16 := rb3
      clear rb3
      refine LL.store rfl rfl rfl rfl h24 (by exact Nat.le_of_ble_eq_true rfl) rfl rfl rfl rfl ?_
      intro Wb6 rb7 bb5 zb8
      have hlbb5 := h24.lt
      replace rb7 : RowL Wb6 _ 4 [Value.bool true] := rb7
      clear h24
      replace h1 := h1.grown bb5 h1.size (by rintro k ⟨⟩; omega)
      replace h9 := h9.gr bb5 (by have := h9.lt; omega)
      replace hx := hx.gr bb5 (by have := hx.lt; omega)
      replace st := st.trans (StaysZ.of_grown bb5 (by omega))
      replace kp := kp.trans (Keeps.of_grown bb5 fun k hk => by (try simp only at hk); omega)
      replace h16 := h16.gr bb5 (by have := h16.lt; omega)
      have h24 := rb7
      clear rb7
      refine LL.nilS ?_
      refine CC.exit ?_
      refine EE.inX' rfl ?_
      exact EE.roundXZ ⟨st, rfl, h1, by rw [← e1]; exact h16, by rw [← e2]; exact h24⟩
    · have hk' := findN_snoc hk hxk
      refine CC.block ?_
      refine CC.seq ?_
      refine CC.region ?_
      refine LL.val (R.field rfl rfl (I.fld rfl)) rfl rfl rfl ?_
      refine LL.val (R.load rfl rfl (I.ld1 rfl (RowL.cell hx rfl))) rfl rfl rfl ?_
      refine LL.val (R.load rfl rfl (I.ld1 rfl (RowL.cell h9 rfl))) rfl rfl rfl ?_
      refine LL.val (R.eqF rfl rfl rfl (by omega)) rfl rfl rfl ?_
      refine LL.nilS ?_
      refine CC.no rfl ?_
      refine CC.skip ?_
      refine EE.inN ?_
      exact EE.roundNZ ⟨st, kp, zW, h1, h9, h16, h24, hk'⟩
  case after =>
    rintro E W hE ⟨h1, h16, h24⟩ hE1
    refine EE.thenN ?_
    refine CC.seq ?_
    refine CC.join (fun l_ Wd9 => l_ = [(0, Value.agg #[Value.slice a n c, Value.int IntKind.u64 ↑left]), (1, Value.int IntKind.u64 ↑key), (2, Value.pointer (some { block := g3, off := 0 })), (3, Value.pointer (some { block := g9, off := 0 })), (4, Value.pointer (some { block := g16, off := 0 })), (5, Value.pointer (some { block := g24, off := 0 })), (8, Value.agg #[Value.slice a n c, Value.int IntKind.u64 ↑left]), (9, Value.func (Fn.func 75) #[] #[Value.pointer (some { block := g29, off := 0 })])] ∧ (Below w.heap.size w Wd9) ∧ (Wd9.heap[E]? = some (Obj.deferred (some []))) ∧ (RowL Wd9 g16 3 [Value.int IntKind.i64 ↑(findN (pairS left s) key).1]) ∧ (RowL Wd9 g24 4 [Value.bool (findN (pairS left s) key).2]) ∧ (W.heap.size ≤ Wd9.heap.size)) (fun Jd13 => ?_) ?restJd13
    case' restJd13 =>
      clear h1
      clear hE1
      clear h16
      clear h24
      rintro _ Wd9 ⟨rfl, h1, hE1, h16, h24, zd12⟩
    refine EE.thenN ?_
    refine CC.ret ?_
    refine EE.noR ?_
    refine EE.retN2 hE1 rfl ⟨_, rfl, lv1 rfl (RowL.cell (taken_up (by assumption) (by omega)) rfl)⟩ ⟨_, rfl, lv1 rfl (RowL.cell (taken_up (by assumption) (by omega)) rfl)⟩ ?_
    exact ⟨rfl, taken_bel h1 (by omega) (Nat.le_refl _)⟩
    refine CC.freeZ (fun W_ j => j < W_.heap.size ∧ (j ≠ g16 ∧ j ≠ g24)) (by kernel_rfl) (by kernel_rfl) (fun Wd15 bd14 zd16 => ?_)
    replace h1 := h1.trans (bd14.mono h1.size)
    replace h16 := h16.up bd14
    replace h24 := h24.up bd14
    replace hE1 := defer_up hE1 bd14
    have hok : Kept (fun j => j < Wd15.heap.size ∧ (j ≠ g16 ∧ j ≠ g24)) Wd15 Wd15 := Kept.refl _ _
    refine AA.two 0 1 (by kernel_rfl) ?_ ?_
    refine SR.val rfl (R.load rfl rfl (I.ld1 rfl (RowL.cell h16 rfl))) rfl rfl hok ?_
    refine AA.two 1 2 (by kernel_rfl) ?_ ?_
    refine SR.val rfl (R.load rfl rfl (I.ld1 rfl (RowL.cell h24 rfl))) rfl rfl hok ?_
    refine AA.one 2 (by kernel_rfl) ?_
    refine ZR.store rfl rfl rfl rfl rfl h16 (by exact Nat.le_of_ble_eq_true rfl) rfl rfl rfl rfl ?_
    intro Wd18 rd19 bd17 zd20
    have hlbd17 := h16.lt
    replace rd19 : RowL Wd18 _ 3 [Value.int IntKind.i64 ↑(findN (pairS left s) key).1] := rd19
    clear h16
    replace h1 := h1.grown bd17 h1.size (by rintro k ⟨⟩; omega)
    replace h24 := h24.gr bd17 (by have := h24.lt; omega)
    replace hE1 := (bd17.block _ (Array.getElem?_eq_some_iff.1 hE1).1 (by simp; omega)).trans hE1
    replace hok := hok.trans (grown_kept bd17 (fun j h => by have := h.1; have := hok.size; omega) (fun j h e => by cases e; have h2 := h.1; have h3 := h.2; omega))
    have h16 := rd19
    clear rd19
    refine ⟨hok, ?_⟩
    refine AA.one 3 (by kernel_rfl) ?_
    refine ZR.store rfl rfl rfl rfl rfl h24 (by exact Nat.le_of_ble_eq_true rfl) rfl rfl rfl rfl ?_
    intro Wd22 rd23 bd21 zd24
    have hlbd21 := h24.lt
    replace rd23 : RowL Wd22 _ 4 [Value.bool (findN (pairS left s) key).2] := rd23
    clear h24
    replace h1 := h1.grown bd21 h1.size (by rintro k ⟨⟩; omega)
    replace hE1 := (bd21.block _ (Array.getElem?_eq_some_iff.1 hE1).1 (by simp; omega)).trans hE1
    replace hok := hok.trans (grown_kept bd21 (fun j h => by have := h.1; have := hok.size; omega) (fun j h e => by cases e; have h2 := h.1; have h3 := h.2; omega))
    replace h16 := h16.gr bd21 (by have := h16.lt; omega)
    have h24 := rd23
    clear rd23
    refine ⟨hok, ?_⟩
    refine AA.done rfl ?_
    clear hok
    exact EE.weak (Jd13 _ _ ⟨rfl, (by first | assumption | omega), (by first | assumption | omega), (by first | assumption | omega), (by first | assumption | omega), (by first | assumption | omega)⟩) ⟨rfl, rfl, rfl, rfl, rfl, rfl, rfl, rfl, trivial⟩
    refine ZR.store rfl rfl rfl rfl rfl h16 (by exact Nat.le_of_ble_eq_true rfl) rfl rfl rfl rfl ?_
    intro Wd26 rd27 bd25 zd28
    have hlbd25 := h16.lt
    replace rd27 : RowL Wd26 _ 3 [Value.int IntKind.i64 ↑(findN (pairS left s) key).1] := rd27
    clear h16
    replace h1 := h1.grown bd25 h1.size (by rintro k ⟨⟩; omega)
    replace h24 := h24.gr bd25 (by have := h24.lt; omega)
    replace hE1 := (bd25.block _ (Array.getElem?_eq_some_iff.1 hE1).1 (by simp; omega)).trans hE1
    replace hok := hok.trans (grown_kept bd25 (fun j h => by have := h.1; have := hok.size; omega) (fun j h e => by cases e; have h2 := h.1; have h3 := h.2; omega))
    have h16 := rd27
    clear rd27
    refine ⟨hok, ?_⟩
    refine AA.one 1 (by kernel_rfl) ?_
    refine SR.val rfl (R.load rfl rfl (I.ld1 rfl (RowL.cell h24 rfl))) rfl rfl hok ?_
    refine AA.one 3 (by kernel_rfl) ?_
    refine ZR.store rfl rfl rfl rfl rfl h24 (by exact Nat.le_of_ble_eq_true rfl) rfl rfl rfl rfl ?_
    intro Wd30 rd31 bd29 zd32
    have hlbd29 := h24.lt
    replace rd31 : RowL Wd30 _ 4 [Value.bool (findN (pairS left s) key).2] := rd31
    clear h24
    replace h1 := h1.grown bd29 h1.size (by rintro k ⟨⟩; omega)
    replace hE1 := (bd29.block _ (Array.getElem?_eq_some_iff.1 hE1).1 (by simp; omega)).trans hE1
    replace hok := hok.trans (grown_kept bd29 (fun j h => by have := h.1; have := hok.size; omega) (fun j h e => by cases e; have h2 := h.1; have h3 := h.2; omega))
    replace h16 := h16.gr bd29 (by have := h16.lt; omega)
    have h24 := rd31
    clear rd31
    refine ⟨hok, ?_⟩
    refine AA.done rfl ?_
    clear hok
    exact EE.weak (Jd13 _ _ ⟨rfl, (by first | assumption | omega), (by first | assumption | omega), (by first | assumption | omega), (by first | assumption | omega), (by first | assumption | omega)⟩) ⟨rfl, rfl, rfl, rfl, rfl, rfl, rfl, rfl, trivial⟩
    refine SR.val rfl (R.load rfl rfl (I.ld1 rfl (RowL.cell h24 rfl))) rfl rfl hok ?_
    refine AA.one 0 (by kernel_rfl) ?_
    refine SR.val rfl (R.load rfl rfl (I.ld1 rfl (RowL.cell h16 rfl))) rfl rfl hok ?_
    refine AA.one 2 (by kernel_rfl) ?_
    refine ZR.store rfl rfl rfl rfl rfl h16 (by exact Nat.le_of_ble_eq_true rfl) rfl rfl rfl rfl ?_
    intro Wd34 rd35 bd33 zd36
    have hlbd33 := h16.lt
    replace rd35 : RowL Wd34 _ 3 [Value.int IntKind.i64 ↑(findN (pairS left s) key).1] := rd35
    clear h16
    replace h1 := h1.grown bd33 h1.size (by rintro k ⟨⟩; omega)
    replace h24 := h24.gr bd33 (by have := h24.lt; omega)
    replace hE1 := (bd33.block _ (Array.getElem?_eq_some_iff.1 hE1).1 (by simp; omega)).trans hE1
    replace hok := hok.trans (grown_kept bd33 (fun j h => by have := h.1; have := hok.size; omega) (fun j h e => by cases e; have h2 := h.1; have h3 := h.2; omega))
    have h16 := rd35
    clear rd35
    refine ⟨hok, ?_⟩
    refine AA.one 3 (by kernel_rfl) ?_
    refine ZR.store rfl rfl rfl rfl rfl h24 (by exact Nat.le_of_ble_eq_true rfl) rfl rfl rfl rfl ?_
    intro Wd38 rd39 bd37 zd40
    have hlbd37 := h24.lt
    replace rd39 : RowL Wd38 _ 4 [Value.bool (findN (pairS left s) key).2] := rd39
    clear h24
    replace h1 := h1.grown bd37 h1.size (by rintro k ⟨⟩; omega)
    replace hE1 := (bd37.block _ (Array.getElem?_eq_some_iff.1 hE1).1 (by simp; omega)).trans hE1
    replace hok := hok.trans (grown_kept bd37 (fun j h => by have := h.1; have := hok.size; omega) (fun j h e => by cases e; have h2 := h.1; have h3 := h.2; omega))
    replace h16 := h16.gr bd37 (by have := h16.lt; omega)
    have h24 := rd39
    clear rd39
    refine ⟨hok, ?_⟩
    refine AA.done rfl ?_
    clear hok
    exact EE.weak (Jd13 _ _ ⟨rfl, (by first | assumption | omega), (by first | assumption | omega), (by first | assumption | omega), (by first | assumption | omega), (by first | assumption | omega)⟩) ⟨rfl, rfl, rfl, rfl, rfl, rfl, rfl, rfl, trivial⟩
/-- What a refusal is. -/
abbrev refV (e : Nat) : Value := .iface 117 (.agg #[.int .i64 (e : Int)])
theorem refuse_F (e : Nat) (w : World) : Calls Try.prog 58 #[.int .i64 (e : Int), .bool false] w fun x w' => x = .returned (.tuple #[]) ∧ w = w' := by
  refine X.fn Try.func58 rfl (n := 8) rfl rfl ?_
  refine CC.seq ?_
  refine CC.region ?_
  refine LL.val (R.move rfl rfl) rfl rfl rfl ?_
  refine LL.nilS ?_
  refine CC.no rfl ?_
  refine CC.skip ?_
  refine EE.end _ rfl rfl ?_
  exact ⟨rfl, rfl⟩
--C slots_refuse | refuse_T _ @w | P ⟨rfl, rfl⟩
theorem refuse_T (e : Nat) (w : World) : Calls Try.prog 58 #[.int .i64 (e : Int), .bool true] w fun x w' => x = .panicked (chain1 (refV e)) ∧ w = w' := by
  refine X.fn Try.func58 rfl (n := 8) rfl rfl ?_
  refine CC.seq ?_
  refine CC.region ?_
  refine LL.val (R.move rfl rfl) rfl rfl rfl ?_
  refine LL.nilS ?_
  refine CC.yes rfl ?_
  refine CC.region ?_
  refine LL.val (R.move rfl rfl) rfl rfl rfl ?_
  refine LL.val (R.buildV rfl rfl (v := .agg #[Value.int IntKind.i64 ↑e]) (fun _ => by kernel_rfl)) rfl rfl rfl ?_
  refine LL.val (R.mkIface rfl rfl (by kernel_rfl)) rfl rfl rfl ?_
  refine LL.panic rfl rfl rfl ?_
  refine EE.pan ?_
  exact ⟨rfl, rfl⟩
end Go.Proofs.Ytfplilpefhhpnaa
/- slots: which pairs may not come in. -/
namespace Go.Proofs.Ytfplilpefhhpnaa
set_option linter.unusedVariables false
set_option linter.unusedSimpArgs false
open Go.RowKit Go.Shelf
set_option maxRecDepth 100000
set_option maxHeartbeats 4000000
theorem settled_T (a : Option Addr) (n c left : Nat) (s : List Nat) (w : World) (hv : ReadsT uE 1 w (.slice a n c) s) (hn : s.length = n) (h : n ≤ 1048576) (hs : setP left s) : Calls Try.prog 73 #[rowV (.slice a n c) left] w fun e w' => e = .returned (.bool true) ∧ Below w.heap.size w w' :=
  (settled_any a n c left s w hv hn h).mono fun e w' ⟨b, h1, h2, h3⟩ => ⟨by rw [h1, h2.2 hs], h3⟩
theorem settled_F (a : Option Addr) (n c left : Nat) (s : List Nat) (w : World) (hv : ReadsT uE 1 w (.slice a n c) s) (hn : s.length = n) (h : n ≤ 1048576) (hs : ¬ setP left s) : Calls Try.prog 73 #[rowV (.slice a n c) left] w fun e w' => e = .returned (.bool false) ∧ Below w.heap.size w w' :=
  (settled_any a n c left s w hv hn h).mono fun e w' ⟨b, h1, h2, h3⟩ => ⟨by cases b with | false => exact h1 | true => exact absurd (h2.1 rfl) hs, h3⟩
theorem rp_A (a : Option Addr) (n c left ptr : Nat) (s : List Nat) (w : World) (hp : ptr = 0 ∨ ptr = left) : Calls Try.prog 56 #[rowV (.slice a n c) left, .int .u64 (ptr : Int)] w fun e w' => e = .panicked (chain1 (refV 2)) ∧ Below w.heap.size w w' := by
  have q := Below.refl w.heap.size w
  have hin : ptr ∈ [0, left] := by simpa using hp
  clear hp
  refine X.fnP Try.func56 rfl (n := 25) rfl rfl ?_
  refine CC.seq ?_
  refine CC.region ?_
  refine LL.box [Value.slice a n c, Value.int IntKind.u64 ↑left] rfl rfl rfl rfl rfl ?_
  intro W2 g3 eg3 r4 z5 b1
  replace q := q.trans (b1.mono q.size)
  have l6 := r4.lt
  refine LL.box [Value.int IntKind.u64 ↑ptr] rfl rfl rfl rfl rfl ?_
  intro W8 g9 eg9 r10 z11 b7
  replace r4 := r4.up b7
  replace b1 := b1.trans (b7.mono b1.size)
  replace q := q.trans (b7.mono q.size)
  refine LL.nilS ?_
  refine CC.seq ?_
  refine CC.region ?_
  refine LL.val (R.load rfl rfl (I.ld1 rfl (RowL.cell r10 rfl))) rfl rfl rfl ?_
  refine LL.val (R.field rfl rfl (I.fld rfl)) rfl rfl rfl ?_
  refine LL.val (R.load rfl rfl (I.ld1 rfl (RowL.cell r4 rfl))) rfl rfl rfl ?_
  have l12 := r10.lt
  have l13 := r4.lt
  refine LL.lit (e := 25) [Value.int IntKind.u64 0, Value.int IntKind.u64 ↑left] 2 rfl rfl (fun _ => by kernel_rfl) rfl rfl ?_
  intro W15 g16 eg16 r17 z18 b14
  replace r10 := r10.up b14
  replace b7 := b7.trans (b14.mono b7.size)
  replace r4 := r4.up b14
  replace b1 := b1.trans (b14.mono b1.size)
  replace q := q.trans (b14.mono q.size)
  refine LL.callDT (R.call rfl rfl rfl) rfl rfl rfl (among_any _ _ _ _ [0, left] _ (RowL.readsT uEnc (ts := [0, left]) (by assumption) 2 (Nat.le_refl _)) rfl (by omega)) (by first | assumption | omega) ?_
  refine LL.callP (R.call rfl rfl rfl) rfl rfl (refuse_T _ _) ?_
  rintro e W20 ⟨rfl, rfl⟩
  refine ⟨_, rfl, ?_⟩
  refine EE.thenP ?_
  refine EE.panM ?_
  exact ⟨rfl, q⟩
theorem rp_S (a : Option Addr) (n c left ptr : Nat) (s : List Nat) (w : World) (hv : ReadsT uE 1 w (.slice a n c) s) (hn : s.length = n) (h : n ≤ 1048576) (hp : ptr ≠ 0 ∧ ptr ≠ left) (hs : ¬ setP left s) : Calls Try.prog 56 #[rowV (.slice a n c) left, .int .u64 (ptr : Int)] w fun e w' => e = .panicked (chain1 (refV 190)) ∧ Below w.heap.size w w' := by
  have q := Below.refl w.heap.size w
  have hvF : ∀ X, Below w.heap.size w X → ReadsT uE 1 X (.slice a n c) s := fun X b => hv.up b
  have hin : ptr ∉ [0, left] := by simpa using hp
  clear hp hv
  refine X.fnP Try.func56 rfl (n := 25) rfl rfl ?_
  refine CC.seq ?_
  refine CC.region ?_
  refine LL.box [Value.slice a n c, Value.int IntKind.u64 ↑left] rfl rfl rfl rfl rfl ?_
  intro W2 g3 eg3 r4 z5 b1
  replace q := q.trans (b1.mono q.size)
  have l6 := r4.lt
  refine LL.box [Value.int IntKind.u64 ↑ptr] rfl rfl rfl rfl rfl ?_
  intro W8 g9 eg9 r10 z11 b7
  replace r4 := r4.up b7
  replace b1 := b1.trans (b7.mono b1.size)
  replace q := q.trans (b7.mono q.size)
  refine LL.nilS ?_
  refine CC.seq ?_
  refine CC.region ?_
  refine LL.val (R.load rfl rfl (I.ld1 rfl (RowL.cell r10 rfl))) rfl rfl rfl ?_
  refine LL.val (R.field rfl rfl (I.fld rfl)) rfl rfl rfl ?_
  refine LL.val (R.load rfl rfl (I.ld1 rfl (RowL.cell r4 rfl))) rfl rfl rfl ?_
  have l12 := r10.lt
  have l13 := r4.lt
  refine LL.lit (e := 25) [Value.int IntKind.u64 0, Value.int IntKind.u64 ↑left] 2 rfl rfl (fun _ => by kernel_rfl) rfl rfl ?_
  intro W15 g16 eg16 r17 z18 b14
  replace r10 := r10.up b14
  replace b7 := b7.trans (b14.mono b7.size)
  replace r4 := r4.up b14
  replace b1 := b1.trans (b14.mono b1.size)
  replace q := q.trans (b14.mono q.size)
  refine LL.callDF (R.call rfl rfl rfl) rfl rfl rfl (among_any _ _ _ _ [0, left] _ (RowL.readsT uEnc (ts := [0, left]) (by assumption) 2 (Nat.le_refl _)) rfl (by omega)) (by first | assumption | omega) ?_
  refine LL.call (R.call rfl rfl rfl) rfl rfl rfl (refuse_F _ _) ?_
  rintro e W' ⟨rfl, rfl⟩
  refine ⟨_, rfl, ?_⟩
  refine LL.nilS ?_
  refine CC.seq ?_
  refine CC.region ?_
  refine LL.val (R.load rfl rfl (I.ldNc (vs := [Value.slice a n c, Value.int IntKind.u64 ↑left]) (RowL.cells r4 rfl) (by rfl) (by rfl))) rfl rfl rfl ?_
  refine LL.call (R.call rfl rfl rfl) rfl rfl rfl (settled_F _ _ _ _ s _ (hvF _ q) hn h (by first | assumption | omega)) ?_
  rintro e W20 ⟨rfl, b19⟩
  refine ⟨_, rfl, ?_⟩
  have zb19 := b19.size
  replace r17 := r17.up b19
  replace b14 := b14.trans (b19.mono b14.size)
  replace r10 := r10.up b19
  replace b7 := b7.trans (b19.mono b7.size)
  replace r4 := r4.up b19
  replace b1 := b1.trans (b19.mono b1.size)
  replace q := q.trans (b19.mono q.size)
  refine LL.val (R.not rfl rfl) rfl rfl rfl ?_
  refine LL.callP (R.call rfl rfl rfl) rfl rfl (refuse_T _ _) ?_
  rintro e W23 ⟨rfl, rfl⟩
  refine ⟨_, rfl, ?_⟩
  refine EE.thenP ?_
  refine EE.panM ?_
  exact ⟨rfl, q⟩
theorem rp_T (a : Option Addr) (n c left ptr : Nat) (s : List Nat) (w : World) (hv : ReadsT uE 1 w (.slice a n c) s) (hn : s.length = n) (h : n ≤ 1048576) (hp : ptr ≠ 0 ∧ ptr ≠ left) (hs : setP left s) (hne : ∀ x ∈ pairS left s, x.2.2 ≠ ptr) : Calls Try.prog 56 #[rowV (.slice a n c) left, .int .u64 (ptr : Int)] w fun e w' => e = .returned (.tuple #[]) ∧ Below w.heap.size w w' := by
  have q := Below.refl w.heap.size w
  have hvF : ∀ X, Below w.heap.size w X → ReadsT uE 1 X (.slice a n c) s := fun X b => hv.up b
  have hin : ptr ∉ [0, left] := by simpa using hp
  clear hp hv
  refine X.fnM Try.func56 rfl (n := 25) rfl rfl ?_
  refine CC.seq ?_
  refine CC.region ?_
  refine LL.box [Value.slice a n c, Value.int IntKind.u64 ↑left] rfl rfl rfl rfl rfl ?_
  intro W2 g3 eg3 r4 z5 b1
  replace q := q.trans (b1.mono q.size)
  have l6 := r4.lt
  refine LL.box [Value.int IntKind.u64 ↑ptr] rfl rfl rfl rfl rfl ?_
  intro W8 g9 eg9 r10 z11 b7
  replace r4 := r4.up b7
  replace b1 := b1.trans (b7.mono b1.size)
  replace q := q.trans (b7.mono q.size)
  refine LL.nilS ?_
  refine CC.seq ?_
  refine CC.region ?_
  refine LL.val (R.load rfl rfl (I.ld1 rfl (RowL.cell r10 rfl))) rfl rfl rfl ?_
  refine LL.val (R.field rfl rfl (I.fld rfl)) rfl rfl rfl ?_
  refine LL.val (R.load rfl rfl (I.ld1 rfl (RowL.cell r4 rfl))) rfl rfl rfl ?_
  have l12 := r10.lt
  have l13 := r4.lt
  refine LL.lit (e := 25) [Value.int IntKind.u64 0, Value.int IntKind.u64 ↑left] 2 rfl rfl (fun _ => by kernel_rfl) rfl rfl ?_
  intro W15 g16 eg16 r17 z18 b14
  replace r10 := r10.up b14
  replace b7 := b7.trans (b14.mono b7.size)
  replace r4 := r4.up b14
  replace b1 := b1.trans (b14.mono b1.size)
  replace q := q.trans (b14.mono q.size)
  refine LL.callDF (R.call rfl rfl rfl) rfl rfl rfl (among_any _ _ _ _ [0, left] _ (RowL.readsT uEnc (ts := [0, left]) (by assumption) 2 (Nat.le_refl _)) rfl (by omega)) (by first | assumption | omega) ?_
  refine LL.call (R.call rfl rfl rfl) rfl rfl rfl (refuse_F _ _) ?_
  rintro e W' ⟨rfl, rfl⟩
  refine ⟨_, rfl, ?_⟩
  refine LL.nilS ?_
  refine CC.seq ?_
  refine CC.region ?_
  refine LL.val (R.load rfl rfl (I.ldNc (vs := [Value.slice a n c, Value.int IntKind.u64 ↑left]) (RowL.cells r4 rfl) (by rfl) (by rfl))) rfl rfl rfl ?_
  refine LL.call (R.call rfl rfl rfl) rfl rfl rfl (settled_T _ _ _ _ s _ (hvF _ q) hn h (by first | assumption | omega)) ?_
  rintro e W20 ⟨rfl, b19⟩
  refine ⟨_, rfl, ?_⟩
  have zb19 := b19.size
  replace r17 := r17.up b19
  replace b14 := b14.trans (b19.mono b14.size)
  replace r10 := r10.up b19
  replace b7 := b7.trans (b19.mono b7.size)
  replace r4 := r4.up b19
  replace b1 := b1.trans (b19.mono b1.size)
  replace q := q.trans (b19.mono q.size)
  refine LL.val (R.not rfl rfl) rfl rfl rfl ?_
  refine LL.call (R.call rfl rfl rfl) rfl rfl rfl (refuse_F _ _) ?_
  rintro e W' ⟨rfl, rfl⟩
  refine ⟨_, rfl, ?_⟩
  refine LL.nilS ?_
  refine CC.seq ?_
  refine CC.region ?_
  refine LL.val (R.load rfl rfl (I.ldNc (vs := [Value.slice a n c, Value.int IntKind.u64 ↑left]) (RowL.cells r4 rfl) (by rfl) (by rfl))) rfl rfl rfl ?_
  refine LL.call (R.call rfl rfl rfl) rfl rfl rfl (each_any _ _ _ _ _) ?_
  rintro e W23 ⟨g24, rfl, r25, l26, b22⟩
  refine ⟨_, rfl, ?_⟩
  have zb22 := b22.size
  replace b19 := b19.trans (b22.mono b19.size)
  replace r17 := r17.up b22
  replace b14 := b14.trans (b22.mono b14.size)
  replace r10 := r10.up b22
  replace b7 := b7.trans (b22.mono b7.size)
  replace r4 := r4.up b22
  replace b1 := b1.trans (b22.mono b1.size)
  replace q := q.trans (b22.mono q.size)
  refine LL.nilS ?_
  refine CC.block ?_
  have yB := q.size
  have l9 := r10.lt
  obtain ⟨bkl, hbl, hblt⟩ := bkl_row (hvF _ (Below.refl _ _)) g24
  have lbk := r25.lt
  refine CC.rangeZ (γ := Nat) (gf := 75) (lb := [.pointer (some ⟨g24, 0, none⟩)]) (encs := spE) rfl rfl (each1_gives g24 bkl a n c left s W23 r25 (hvF _ q) hn h hbl).z (Below.refl _ _) (fun k hk => by (try simp only at hk); omega) (fun _ => rfl) rfl
    (fun m (pre : List (Nat × Pr)) W' => W23.heap.size ≤ W'.heap.size ∧ Below w.heap.size w W' ∧ RowL W' g9 25 [.int .u64 (ptr : Int)] ∧ ∀ y ∈ pre, y.2.2 ≠ ptr)
    (fun _ _ _ => False)
    (fun W' => Below w.heap.size w W')
    (fun m m' s X Y hs ht hg => ⟨by have := ht.size; have := hs.1; omega, hs.2.1.trans (ht.below yB hs.2.1.size), ht.row hs.2.2.1 (.inl l9), hs.2.2.2⟩)
    (fun m m' s X Y hs ht hg => hs)
    ⟨Nat.le_refl _, q, r10, fun y hy => by cases hy⟩ ?hIA (fun _ _ _ _ h => h.elim)
    (fun x g => sl [(3, .pointer (some ⟨g9, 0, none⟩)), (5, .pointer (some ⟨g, 0, none⟩))]) (fun x g W' => RowL W' g 46 (prE x.2) ∧ W23.heap.size ≤ g) (fun x g => fun _ W W' row h hg hr => ⟨RowL.own () W W' row h.1 hg hr, h.2⟩) ?assign ?body ?after
  case hIA =>
    rintro m xs W' rfl ⟨_, h1, _, hk⟩
    exact h1
  case assign =>
    rintro l' m pre x W K hm ⟨zW, h1, h9, hk⟩ hK
    have qa := Below.refl W.heap.size W
    have ySz := h1.size
    refine CC.region ?_
    have la1 := h9.lt
    refine LL.alloc ([Value.int IntKind.u64 0, Value.int IntKind.u64 0]) rfl rfl rfl rfl rfl ?_
    intro Wa3 ga4 ega4 ra5 za6 ba2
    replace h1 := h1.trans (ba2.mono h1.size)
    replace h9 := h9.up ba2
    replace qa := qa.trans (ba2.mono qa.size)
    refine LL.storeN (vs := [Value.int IntKind.u64 ↑x.2.1, Value.int IntKind.u64 ↑x.2.2]) rfl rfl rfl rfl ra5 (by exact Nat.le_of_ble_eq_true rfl) (ones_of rfl) rfl rfl ?_
    intro Wa8 ra9 ba7 za10
    have hlba7 := ra5.lt
    replace ra9 : RowL Wa8 _ 46 [Value.int IntKind.u64 ↑x.2.1, Value.int IntKind.u64 ↑x.2.2] := ra9
    clear ra5
    replace ba2 := ba2.grown ba7 ba2.size (by rintro k ⟨⟩; omega)
    replace h1 := h1.grown ba7 h1.size (by rintro k ⟨⟩; omega)
    replace h9 := h9.gr ba7 (by have := h9.lt; omega)
    replace qa := qa.grown ba7 qa.size (by rintro k ⟨⟩; omega)
    have ra5 := ra9
    clear ra9
    refine LL.nil ?_
    exact EE.thenK fun a' F => hK a' _ _ (StaysZ.of_below qa) (Keeps.of_below (fun k hk => by (try simp only at hk); omega) qa) ⟨by omega, h1, h9, hk⟩ (F.keep _ ⟨rfl, rfl, trivial⟩) ⟨by assumption, by omega⟩
  case body =>
    rintro l' m pre x g W hm hl' hrl ⟨zW, h1, h9, hk⟩ ⟨hx, hg⟩ hpart
    have st := StaysZ.refl W23.heap.size m W
    have kp := Keeps.refl (fun k => k = g24 ∨ k = bkl) W
    have hxp : x.2.2 ≠ ptr := hne x (by obtain ⟨_, rfl, tt, hp⟩ := hpart; rw [← hp]; simp)
    have hk' : ∀ y ∈ pre ++ [x], y.2.2 ≠ ptr := fun y hy => by
      rcases List.mem_append.1 hy with hy | hy
      · exact hk y hy
      · rw [List.mem_singleton.1 hy]; exact hxp
    refine CC.block ?_
    refine CC.region ?_
    refine LL.val (R.field rfl rfl (I.fld rfl)) rfl rfl rfl ?_
    refine LL.val (R.load rfl rfl (I.ld1 rfl (RowL.cell hx rfl))) rfl rfl rfl ?_
    refine LL.val (R.load rfl rfl (I.ld1 rfl (RowL.cell h9 rfl))) rfl rfl rfl ?_
    refine LL.val (R.eqF rfl rfl rfl (by omega)) rfl rfl rfl ?_
    refine LL.call (R.call rfl rfl rfl) rfl rfl rfl (refuse_F _ _) ?_
    rintro e W' ⟨rfl, rfl⟩
    refine ⟨_, rfl, ?_⟩
    refine LL.nil ?_
    refine EE.inN ?_
    exact EE.roundNZ ⟨st, kp, zW, h1, h9, hk'⟩
  case after =>
    rintro E W hE h1 hE1
    refine EE.end1 hE1 _ rfl rfl ?_
    exact ⟨rfl, taken_bel h1 (by omega) (Nat.le_refl _)⟩
theorem rp_P (a : Option Addr) (n c left ptr : Nat) (s : List Nat) (w : World) (hv : ReadsT uE 1 w (.slice a n c) s) (hn : s.length = n) (h : n ≤ 1048576) (hp : ptr ≠ 0 ∧ ptr ≠ left) (hs : setP left s) (hex : ∃ x ∈ pairS left s, x.2.2 = ptr) : Calls Try.prog 56 #[rowV (.slice a n c) left, .int .u64 (ptr : Int)] w fun e w' => e = .panicked (chain1 (refV 2)) ∧ Below w.heap.size w w' := by
  have q := Below.refl w.heap.size w
  have hvF : ∀ X, Below w.heap.size w X → ReadsT uE 1 X (.slice a n c) s := fun X b => hv.up b
  have hin : ptr ∉ [0, left] := by simpa using hp
  clear hp hv
  refine X.fnP Try.func56 rfl (n := 25) rfl rfl ?_
  refine CC.seq ?_
  refine CC.region ?_
  refine LL.box [Value.slice a n c, Value.int IntKind.u64 ↑left] rfl rfl rfl rfl rfl ?_
  intro W2 g3 eg3 r4 z5 b1
  replace q := q.trans (b1.mono q.size)
  have l6 := r4.lt
  refine LL.box [Value.int IntKind.u64 ↑ptr] rfl rfl rfl rfl rfl ?_
  intro W8 g9 eg9 r10 z11 b7
  replace r4 := r4.up b7
  replace b1 := b1.trans (b7.mono b1.size)
  replace q := q.trans (b7.mono q.size)
  refine LL.nilS ?_
  refine CC.seq ?_
  refine CC.region ?_
  refine LL.val (R.load rfl rfl (I.ld1 rfl (RowL.cell r10 rfl))) rfl rfl rfl ?_
  refine LL.val (R.field rfl rfl (I.fld rfl)) rfl rfl rfl ?_
  refine LL.val (R.load rfl rfl (I.ld1 rfl (RowL.cell r4 rfl))) rfl rfl rfl ?_
  have l12 := r10.lt
  have l13 := r4.lt
  refine LL.lit (e := 25) [Value.int IntKind.u64 0, Value.int IntKind.u64 ↑left] 2 rfl rfl (fun _ => by kernel_rfl) rfl rfl ?_
  intro W15 g16 eg16 r17 z18 b14
  replace r10 := r10.up b14
  replace b7 := b7.trans (b14.mono b7.size)
  replace r4 := r4.up b14
  replace b1 := b1.trans (b14.mono b1.size)
  replace q := q.trans (b14.mono q.size)
  refine LL.callDF (R.call rfl rfl rfl) rfl rfl rfl (among_any _ _ _ _ [0, left] _ (RowL.readsT uEnc (ts := [0, left]) (by assumption) 2 (Nat.le_refl _)) rfl (by omega)) (by first | assumption | omega) ?_
  refine LL.call (R.call rfl rfl rfl) rfl rfl rfl (refuse_F _ _) ?_
  rintro e W' ⟨rfl, rfl⟩
  refine ⟨_, rfl, ?_⟩
  refine LL.nilS ?_
  refine CC.seq ?_
  refine CC.region ?_
  refine LL.val (R.load rfl rfl (I.ldNc (vs := [Value.slice a n c, Value.int IntKind.u64 ↑left]) (RowL.cells r4 rfl) (by rfl) (by rfl))) rfl rfl rfl ?_
  refine LL.call (R.call rfl rfl rfl) rfl rfl rfl (settled_T _ _ _ _ s _ (hvF _ q) hn h (by first | assumption | omega)) ?_
  rintro e W20 ⟨rfl, b19⟩
  refine ⟨_, rfl, ?_⟩
  have zb19 := b19.size
  replace r17 := r17.up b19
  replace b14 := b14.trans (b19.mono b14.size)
  replace r10 := r10.up b19
  replace b7 := b7.trans (b19.mono b7.size)
  replace r4 := r4.up b19
  replace b1 := b1.trans (b19.mono b1.size)
  replace q := q.trans (b19.mono q.size)
  refine LL.val (R.not rfl rfl) rfl rfl rfl ?_
  refine LL.call (R.call rfl rfl rfl) rfl rfl rfl (refuse_F _ _) ?_
  rintro e W' ⟨rfl, rfl⟩
  refine ⟨_, rfl, ?_⟩
  refine LL.nilS ?_
  refine CC.seq ?_
  refine CC.region ?_
  refine LL.val (R.load rfl rfl (I.ldNc (vs := [Value.slice a n c, Value.int IntKind.u64 ↑left]) (RowL.cells r4 rfl) (by rfl) (by rfl))) rfl rfl rfl ?_
  refine LL.call (R.call rfl rfl rfl) rfl rfl rfl (each_any _ _ _ _ _) ?_
  rintro e W23 ⟨g24, rfl, r25, l26, b22⟩
  refine ⟨_, rfl, ?_⟩
  have zb22 := b22.size
  replace b19 := b19.trans (b22.mono b19.size)
  replace r17 := r17.up b22
  replace b14 := b14.trans (b22.mono b14.size)
  replace r10 := r10.up b22
  replace b7 := b7.trans (b22.mono b7.size)
  replace r4 := r4.up b22
  replace b1 := b1.trans (b22.mono b1.size)
  replace q := q.trans (b22.mono q.size)
  refine LL.nilS ?_
  refine CC.block ?_
  have yB := q.size
  have l9 := r10.lt
  obtain ⟨bkl, hbl, hblt⟩ := bkl_row (hvF _ (Below.refl _ _)) g24
  have lbk := r25.lt
  refine CC.rangeP (γ := Nat) (gf := 75) (lb := [.pointer (some ⟨g24, 0, none⟩)]) (encs := spE) rfl rfl (each1_gives g24 bkl a n c left s W23 r25 (hvF _ q) hn h hbl) (Below.refl _ _) (fun k hk => by (try simp only at hk); omega) (fun _ => rfl) rfl
    (fun m (pre : List (Nat × Pr)) W' => W23.heap.size ≤ W'.heap.size ∧ Below w.heap.size w W' ∧ RowL W' g9 25 [.int .u64 (ptr : Int)] ∧ ∀ y ∈ pre, y.2.2 ≠ ptr)
    (fun _ _ _ => False)
    (fun ch W' => ch = chain1 (refV 2) ∧ Below w.heap.size w W')
    (fun W' => False)
    (fun m m' s X Y hs ht hg => ⟨by have := ht.size; have := hs.1; omega, hs.2.1.trans (ht.below yB hs.2.1.size), ht.row hs.2.2.1 (.inl l9), hs.2.2.2⟩)
    (fun m m' s X Y hs ht hg => hs)
    (fun ch m X Y hs ht => ⟨hs.1, hs.2.trans (ht.below yB hs.2.size)⟩)
    ⟨Nat.le_refl _, q, r10, fun y hy => by cases hy⟩ ?hIA (fun _ _ _ _ h => h.elim)
    (fun x g => sl [(3, .pointer (some ⟨g9, 0, none⟩)), (5, .pointer (some ⟨g, 0, none⟩))]) (fun x g W' => RowL W' g 46 (prE x.2) ∧ W23.heap.size ≤ g) (fun x g => fun _ W W' row h hg hr => ⟨RowL.own () W W' row h.1 hg hr, h.2⟩) ?assign ?body ?after ?pan
  case hIA =>
    rintro m xs W' rfl ⟨_, h1, _, hk⟩
    obtain ⟨x, hx1, hx2⟩ := hex
    exact hk x hx1 hx2
  case assign =>
    rintro l' m pre x W K hm ⟨zW, h1, h9, hk⟩ hK
    have qa := Below.refl W.heap.size W
    have ySz := h1.size
    refine CC.region ?_
    have la1 := h9.lt
    refine LL.alloc ([Value.int IntKind.u64 0, Value.int IntKind.u64 0]) rfl rfl rfl rfl rfl ?_
    intro Wa3 ga4 ega4 ra5 za6 ba2
    replace h1 := h1.trans (ba2.mono h1.size)
    replace h9 := h9.up ba2
    replace qa := qa.trans (ba2.mono qa.size)
    refine LL.storeN (vs := [Value.int IntKind.u64 ↑x.2.1, Value.int IntKind.u64 ↑x.2.2]) rfl rfl rfl rfl ra5 (by exact Nat.le_of_ble_eq_true rfl) (ones_of rfl) rfl rfl ?_
    intro Wa8 ra9 ba7 za10
    have hlba7 := ra5.lt
    replace ra9 : RowL Wa8 _ 46 [Value.int IntKind.u64 ↑x.2.1, Value.int IntKind.u64 ↑x.2.2] := ra9
    clear ra5
    replace ba2 := ba2.grown ba7 ba2.size (by rintro k ⟨⟩; omega)
    replace h1 := h1.grown ba7 h1.size (by rintro k ⟨⟩; omega)
    replace h9 := h9.gr ba7 (by have := h9.lt; omega)
    replace qa := qa.grown ba7 qa.size (by rintro k ⟨⟩; omega)
    have ra5 := ra9
    clear ra9
    refine LL.nil ?_
    exact EE.thenK fun a' F => hK a' _ _ (StaysZ.of_below qa) (Keeps.of_below (fun k hk => by (try simp only at hk); omega) qa) ⟨by omega, h1, h9, hk⟩ (F.keep _ ⟨rfl, rfl, trivial⟩) ⟨by assumption, by omega⟩
  case body =>
    rintro l' m pre x g W hm hl' hrl ⟨zW, h1, h9, hk⟩ ⟨hx, hg⟩ hpart
    have st := StaysZ.refl W23.heap.size m W
    have kp := Keeps.refl (fun k => k = g24 ∨ k = bkl) W
    by_cases hxp : x.2.2 = ptr
    · refine CQ.block ?_
      refine CQ.region ?_
      refine LL.val (R.field rfl rfl (I.fld rfl)) rfl rfl rfl ?_
      refine LL.val (R.load rfl rfl (I.ld1 rfl (RowL.cell hx rfl))) rfl rfl rfl ?_
      refine LL.val (R.load rfl rfl (I.ld1 rfl (RowL.cell h9 rfl))) rfl rfl rfl ?_
      refine LL.val (R.eqT rfl rfl rfl (by omega)) rfl rfl rfl ?_
      refine LL.callP (R.call rfl rfl rfl) rfl rfl (refuse_T _ _) ?_
      rintro e Wb2 ⟨rfl, rfl⟩
      refine ⟨_, rfl, ?_⟩
      refine EE.inP ?_
      exact EE.roundPP ⟨st, rfl, h1⟩
    · have hk' : ∀ y ∈ pre ++ [x], y.2.2 ≠ ptr := fun y hy => by
        rcases List.mem_append.1 hy with hy | hy
        · exact hk y hy
        · rw [List.mem_singleton.1 hy]; exact hxp
      refine CQ.block ?_
      refine CQ.region ?_
      refine LL.val (R.field rfl rfl (I.fld rfl)) rfl rfl rfl ?_
      refine LL.val (R.load rfl rfl (I.ld1 rfl (RowL.cell hx rfl))) rfl rfl rfl ?_
      refine LL.val (R.load rfl rfl (I.ld1 rfl (RowL.cell h9 rfl))) rfl rfl rfl ?_
      refine LL.val (R.eqF rfl rfl rfl (by omega)) rfl rfl rfl ?_
      refine LL.call (R.call rfl rfl rfl) rfl rfl rfl (refuse_F _ _) ?_
      rintro e W' ⟨rfl, rfl⟩
      refine ⟨_, rfl, ?_⟩
      refine LL.nil ?_
      refine EE.inN ?_
      exact EE.roundNP ⟨st, kp, zW, h1, h9, hk'⟩
  case after =>
    rintro E W hE h1 hE1
    exact h1.elim
  case pan =>
    rintro E ch W hE ⟨rfl, h1⟩ hE1
    refine EE.panM1 hE1 ?_
    exact ⟨rfl, taken_bel h1 (by omega) (Nat.le_refl _)⟩
end Go.Proofs.Ytfplilpefhhpnaa
/- slots: a change under way; the closure that stores. -/
namespace Go.Proofs.Ytfplilpefhhpnaa
set_option linter.unusedVariables false
set_option linter.unusedSimpArgs false
open Go.RowKit Go.Shelf
set_option maxRecDepth 100000
/-- A store: where, and what. An act: its kind, where, and what. -/
abbrev Pt := Int × Nat

def pE (p : Pt) : List Value := [.int .i64 p.1, .int .u64 (p.2 : Int)]

theorem pEnc : Enc pE 2 := ⟨fun _ => rfl, fun t u hu => by
  simp only [pE, List.mem_cons, List.not_mem_nil, or_false] at hu
  rcases hu with rfl | rfl <;> rfl, by decide⟩

theorem Try.infoPut : (Try.prog.info? 68).map (fun i => (i.zero, i.size, i.bytes)) = some (some (.agg #[.int .i64 0, .int .u64 0]), 2, 16) := by kernel_rfl

theorem ElPut : ElT Try.prog 49 68 (.agg #[.int .i64 0, .int .u64 0]) 2 16 := info_parts_t Try.underlying49 Try.infoPut rfl

theorem OwnsT.keptO {α : Type} {enc : α → List Value} {k : Nat} {w w' : World} {base e : Nat} {v : Value} {ts : List α} (h : OwnsT enc k w base e v ts) (hk : ∀ b, v.ownBlock = some b → w'.heap[b]? = w.heap[b]?) : OwnsT enc k w' base e v ts := by
  refine ⟨h.1, ?_⟩
  rcases h.2 with h2 | ⟨g', cap, cur, rfl, hbg, hb, h3⟩
  · exact .inl h2
  · exact .inr ⟨g', cap, cur, rfl, hbg, (hk g' rfl).trans hb, h3⟩

theorem uclone_any (v : Value) (xs : List Nat) (w : World) (ha : ReadsT uE 1 w v xs) (hl : xs.length ≤ 1048576) :
    Calls Try.prog 50 #[v] w fun e w' => ∃ v', e = .returned v' ∧ OwnsT uE 1 w' w.heap.size 25 v' xs ∧ Below w.heap.size w w' := by
  obtain ⟨a, cap, rfl, hc⟩ := ha.form rfl
  refine X.fn Try.func50 rfl (n := 8) rfl rfl ?_
  (repeat (first | (first | refine CC.seq ?_ | refine CC.region ?_ | refine LL.nilS ?_ | refine CC.yes rfl ?_ | refine CC.no rfl ?_ | refine CC.block ?_ | refine EE.thenN ?_ | refine LL.nil ?_ | refine CC.exit ?_ | refine CC.ret ?_ | refine CC.skip ?_ | refine EE.thenX ?_ | refine EE.thenR ?_ | refine EE.inN ?_ | refine EE.inX ?_ | refine EE.inX' rfl ?_ | refine EE.inR ?_ | refine CC.label ?_ | refine EE.thenG ?_ | refine EE.inG ?_) | (first | refine LL.val (R.move rfl rfl) rfl rfl rfl ?_ | refine LL.val (R.assign rfl rfl) rfl rfl rfl ?_ | refine LL.val (R.nil rfl rfl) rfl rfl rfl ?_ | refine LL.val (R.field rfl rfl (I.fld rfl)) rfl rfl rfl ?_ | refine LL.val (R.load rfl rfl (I.ld1 rfl (by assumption))) rfl rfl rfl ?_ | refine LL.val (R.load rfl rfl (I.ld1 rfl (RowL.cell (by assumption) rfl))) rfl rfl rfl ?_ | refine LL.val (R.index rfl rfl rfl (I.ixA1c rfl rfl (by first | omega | decide))) rfl rfl rfl ?_ | refine LL.val (R.index rfl rfl rfl (I.ixS1c rfl rfl (by omega))) rfl rfl rfl ?_ | refine LL.val (R.index rfl rfl rfl (I.ixAc rfl rfl (by first | omega | decide))) rfl rfl rfl ?_ | refine LL.val (R.index rfl rfl rfl (I.ixSc rfl rfl (by omega))) rfl rfl rfl ?_ | refine LL.val (R.index rfl rfl rfl (I.ixA1 rfl (by omega))) rfl rfl rfl ?_ | refine LL.val (R.index rfl rfl rfl (I.ixS1 rfl (by omega))) rfl rfl rfl ?_ | refine LL.val (R.index rfl rfl rfl (I.ixA rfl (by omega))) rfl rfl rfl ?_ | refine LL.val (R.index rfl rfl rfl (I.ixS rfl (by omega))) rfl rfl rfl ?_ | refine LL.val (R.ltT rfl rfl rfl (by omega)) rfl rfl rfl ?_ | refine LL.val (R.ltF rfl rfl rfl (by omega)) rfl rfl rfl ?_ | refine LL.val (R.addNc rfl rfl rfl rfl (by omega)) rfl rfl rfl ?_ | refine LL.val (R.subNc rfl rfl rfl rfl (by omega) (by omega)) rfl rfl rfl ?_ | refine LL.val (R.addN rfl rfl rfl (by omega)) rfl rfl rfl ?_ | refine LL.val (R.subN rfl rfl rfl (by omega) (by omega)) rfl rfl rfl ?_ | refine LL.val (R.subcN rfl rfl rfl rfl (by omega) (by omega)) rfl rfl rfl ?_ | refine LL.val (R.addI rfl rfl rfl (by omega)) rfl rfl rfl ?_ | refine LL.val (R.subI rfl rfl rfl (by omega)) rfl rfl rfl ?_ | refine LL.val (R.mulNc rfl rfl rfl rfl (by omega)) rfl rfl rfl ?_ | refine LL.val (R.mulcN rfl rfl rfl rfl (by omega)) rfl rfl rfl ?_ | refine LL.val (R.quoNc rfl rfl rfl rfl (by omega) (by omega)) rfl rfl rfl ?_ | refine LL.val (R.remNc rfl rfl rfl rfl (by omega)) rfl rfl rfl ?_ | refine LL.val (R.mulN rfl rfl rfl (by omega)) rfl rfl rfl ?_ | refine LL.val (R.quoN rfl rfl rfl (by omega) (by omega)) rfl rfl rfl ?_ | refine LL.val (R.remN rfl rfl rfl (by omega)) rfl rfl rfl ?_ | refine LL.val (R.leT rfl rfl rfl (by omega)) rfl rfl rfl ?_ | refine LL.val (R.leF rfl rfl rfl (by omega)) rfl rfl rfl ?_ | refine LL.val (R.gtT rfl rfl rfl (by omega)) rfl rfl rfl ?_ | refine LL.val (R.gtF rfl rfl rfl (by omega)) rfl rfl rfl ?_ | refine LL.val (R.geT rfl rfl rfl (by omega)) rfl rfl rfl ?_ | refine LL.val (R.geF rfl rfl rfl (by omega)) rfl rfl rfl ?_ | refine LL.val (R.eqT rfl rfl rfl (by omega)) rfl rfl rfl ?_ | refine LL.val (R.eqF rfl rfl rfl (by omega)) rfl rfl rfl ?_ | refine LL.val (R.neT rfl rfl rfl (by omega)) rfl rfl rfl ?_ | refine LL.val (R.neF rfl rfl rfl (by omega)) rfl rfl rfl ?_ | refine LL.val (R.eqPtr rfl rfl rfl rfl rfl) rfl rfl rfl ?_ | refine LL.val (R.nePtr rfl rfl rfl rfl rfl) rfl rfl rfl ?_ | refine LL.val (R.eqSl rfl rfl rfl rfl rfl) rfl rfl rfl ?_ | refine LL.val (R.neSl rfl rfl rfl rfl rfl) rfl rfl rfl ?_ | refine LL.val (R.eqFn rfl rfl rfl rfl) rfl rfl rfl ?_ | refine LL.val (R.eqBool rfl rfl rfl rfl rfl) rfl rfl rfl ?_ | refine LL.val (R.neBool rfl rfl rfl rfl rfl) rfl rfl rfl ?_ | refine LL.val (R.xorU rfl rfl rfl (by first | omega | decide) (by first | omega | decide)) rfl rfl rfl ?_ | refine LL.val (R.addUN rfl rfl rfl (by omega)) rfl rfl rfl ?_ | refine LL.val (R.not rfl rfl) rfl rfl rfl ?_ | refine LL.val (R.lenS rfl rfl rfl rfl) rfl rfl rfl ?_ | refine LL.val (R.len rfl rfl rfl rfl) rfl rfl rfl ?_ | refine LL.val (R.pick rfl rfl rfl) rfl rfl rfl ?_ | refine LL.val (R.extract rfl rfl rfl) rfl rfl rfl ?_ | refine LL.val (R.func rfl rfl rfl) rfl rfl rfl ?_ | refine LL.val (R.slice rfl rfl rfl rfl rfl (I.slA rfl)) rfl rfl rfl ?_ | refine LL.val (R.slice rfl rfl rfl rfl rfl (I.slAto rfl (by omega))) rfl rfl rfl ?_) | refine LL.skip rfl rfl ?_))
  cases a with
  | none =>
    have hx : xs = [] := by
      obtain ⟨a', cap', e, _, h⟩ := ha
      cases e
      rcases Classical.em (xs = []) with h0 | h0
      · exact h0
      · obtain ⟨_, _, h1, _⟩ := h h0
        cases h1
    subst hx
    (repeat (first | (first | refine CC.seq ?_ | refine CC.region ?_ | refine LL.nilS ?_ | refine CC.yes rfl ?_ | refine CC.no rfl ?_ | refine CC.block ?_ | refine EE.thenN ?_ | refine LL.nil ?_ | refine CC.exit ?_ | refine CC.ret ?_ | refine CC.skip ?_ | refine EE.thenX ?_ | refine EE.thenR ?_ | refine EE.inN ?_ | refine EE.inX ?_ | refine EE.inX' rfl ?_ | refine EE.inR ?_ | refine CC.label ?_ | refine EE.thenG ?_ | refine EE.inG ?_) | (first | refine LL.val (R.move rfl rfl) rfl rfl rfl ?_ | refine LL.val (R.assign rfl rfl) rfl rfl rfl ?_ | refine LL.val (R.nil rfl rfl) rfl rfl rfl ?_ | refine LL.val (R.field rfl rfl (I.fld rfl)) rfl rfl rfl ?_ | refine LL.val (R.load rfl rfl (I.ld1 rfl (by assumption))) rfl rfl rfl ?_ | refine LL.val (R.load rfl rfl (I.ld1 rfl (RowL.cell (by assumption) rfl))) rfl rfl rfl ?_ | refine LL.val (R.index rfl rfl rfl (I.ixA1c rfl rfl (by first | omega | decide))) rfl rfl rfl ?_ | refine LL.val (R.index rfl rfl rfl (I.ixS1c rfl rfl (by omega))) rfl rfl rfl ?_ | refine LL.val (R.index rfl rfl rfl (I.ixAc rfl rfl (by first | omega | decide))) rfl rfl rfl ?_ | refine LL.val (R.index rfl rfl rfl (I.ixSc rfl rfl (by omega))) rfl rfl rfl ?_ | refine LL.val (R.index rfl rfl rfl (I.ixA1 rfl (by omega))) rfl rfl rfl ?_ | refine LL.val (R.index rfl rfl rfl (I.ixS1 rfl (by omega))) rfl rfl rfl ?_ | refine LL.val (R.index rfl rfl rfl (I.ixA rfl (by omega))) rfl rfl rfl ?_ | refine LL.val (R.index rfl rfl rfl (I.ixS rfl (by omega))) rfl rfl rfl ?_ | refine LL.val (R.ltT rfl rfl rfl (by omega)) rfl rfl rfl ?_ | refine LL.val (R.ltF rfl rfl rfl (by omega)) rfl rfl rfl ?_ | refine LL.val (R.addNc rfl rfl rfl rfl (by omega)) rfl rfl rfl ?_ | refine LL.val (R.subNc rfl rfl rfl rfl (by omega) (by omega)) rfl rfl rfl ?_ | refine LL.val (R.addN rfl rfl rfl (by omega)) rfl rfl rfl ?_ | refine LL.val (R.subN rfl rfl rfl (by omega) (by omega)) rfl rfl rfl ?_ | refine LL.val (R.subcN rfl rfl rfl rfl (by omega) (by omega)) rfl rfl rfl ?_ | refine LL.val (R.addI rfl rfl rfl (by omega)) rfl rfl rfl ?_ | refine LL.val (R.subI rfl rfl rfl (by omega)) rfl rfl rfl ?_ | refine LL.val (R.mulNc rfl rfl rfl rfl (by omega)) rfl rfl rfl ?_ | refine LL.val (R.mulcN rfl rfl rfl rfl (by omega)) rfl rfl rfl ?_ | refine LL.val (R.quoNc rfl rfl rfl rfl (by omega) (by omega)) rfl rfl rfl ?_ | refine LL.val (R.remNc rfl rfl rfl rfl (by omega)) rfl rfl rfl ?_ | refine LL.val (R.mulN rfl rfl rfl (by omega)) rfl rfl rfl ?_ | refine LL.val (R.quoN rfl rfl rfl (by omega) (by omega)) rfl rfl rfl ?_ | refine LL.val (R.remN rfl rfl rfl (by omega)) rfl rfl rfl ?_ | refine LL.val (R.leT rfl rfl rfl (by omega)) rfl rfl rfl ?_ | refine LL.val (R.leF rfl rfl rfl (by omega)) rfl rfl rfl ?_ | refine LL.val (R.gtT rfl rfl rfl (by omega)) rfl rfl rfl ?_ | refine LL.val (R.gtF rfl rfl rfl (by omega)) rfl rfl rfl ?_ | refine LL.val (R.geT rfl rfl rfl (by omega)) rfl rfl rfl ?_ | refine LL.val (R.geF rfl rfl rfl (by omega)) rfl rfl rfl ?_ | refine LL.val (R.eqT rfl rfl rfl (by omega)) rfl rfl rfl ?_ | refine LL.val (R.eqF rfl rfl rfl (by omega)) rfl rfl rfl ?_ | refine LL.val (R.neT rfl rfl rfl (by omega)) rfl rfl rfl ?_ | refine LL.val (R.neF rfl rfl rfl (by omega)) rfl rfl rfl ?_ | refine LL.val (R.eqPtr rfl rfl rfl rfl rfl) rfl rfl rfl ?_ | refine LL.val (R.nePtr rfl rfl rfl rfl rfl) rfl rfl rfl ?_ | refine LL.val (R.eqSl rfl rfl rfl rfl rfl) rfl rfl rfl ?_ | refine LL.val (R.neSl rfl rfl rfl rfl rfl) rfl rfl rfl ?_ | refine LL.val (R.eqFn rfl rfl rfl rfl) rfl rfl rfl ?_ | refine LL.val (R.eqBool rfl rfl rfl rfl rfl) rfl rfl rfl ?_ | refine LL.val (R.neBool rfl rfl rfl rfl rfl) rfl rfl rfl ?_ | refine LL.val (R.xorU rfl rfl rfl (by first | omega | decide) (by first | omega | decide)) rfl rfl rfl ?_ | refine LL.val (R.addUN rfl rfl rfl (by omega)) rfl rfl rfl ?_ | refine LL.val (R.not rfl rfl) rfl rfl rfl ?_ | refine LL.val (R.lenS rfl rfl rfl rfl) rfl rfl rfl ?_ | refine LL.val (R.len rfl rfl rfl rfl) rfl rfl rfl ?_ | refine LL.val (R.pick rfl rfl rfl) rfl rfl rfl ?_ | refine LL.val (R.extract rfl rfl rfl) rfl rfl rfl ?_ | refine LL.val (R.func rfl rfl rfl) rfl rfl rfl ?_ | refine LL.val (R.slice rfl rfl rfl rfl rfl (I.slA rfl)) rfl rfl rfl ?_ | refine LL.val (R.slice rfl rfl rfl rfl rfl (I.slAto rfl (by omega))) rfl rfl rfl ?_) | refine LL.skip rfl rfl ?_))
    refine EE.ret _ rfl rfl ?_
    exact ⟨_, rfl, OwnsT.none _ _ _, Below.refl _ _⟩
  | some p =>
    (repeat (first | (first | refine CC.seq ?_ | refine CC.region ?_ | refine LL.nilS ?_ | refine CC.yes rfl ?_ | refine CC.no rfl ?_ | refine CC.block ?_ | refine EE.thenN ?_ | refine LL.nil ?_ | refine CC.exit ?_ | refine CC.ret ?_ | refine CC.skip ?_ | refine EE.thenX ?_ | refine EE.thenR ?_ | refine EE.inN ?_ | refine EE.inX ?_ | refine EE.inX' rfl ?_ | refine EE.inR ?_ | refine CC.label ?_ | refine EE.thenG ?_ | refine EE.inG ?_) | (first | refine LL.val (R.move rfl rfl) rfl rfl rfl ?_ | refine LL.val (R.assign rfl rfl) rfl rfl rfl ?_ | refine LL.val (R.nil rfl rfl) rfl rfl rfl ?_ | refine LL.val (R.field rfl rfl (I.fld rfl)) rfl rfl rfl ?_ | refine LL.val (R.load rfl rfl (I.ld1 rfl (by assumption))) rfl rfl rfl ?_ | refine LL.val (R.load rfl rfl (I.ld1 rfl (RowL.cell (by assumption) rfl))) rfl rfl rfl ?_ | refine LL.val (R.index rfl rfl rfl (I.ixA1c rfl rfl (by first | omega | decide))) rfl rfl rfl ?_ | refine LL.val (R.index rfl rfl rfl (I.ixS1c rfl rfl (by omega))) rfl rfl rfl ?_ | refine LL.val (R.index rfl rfl rfl (I.ixAc rfl rfl (by first | omega | decide))) rfl rfl rfl ?_ | refine LL.val (R.index rfl rfl rfl (I.ixSc rfl rfl (by omega))) rfl rfl rfl ?_ | refine LL.val (R.index rfl rfl rfl (I.ixA1 rfl (by omega))) rfl rfl rfl ?_ | refine LL.val (R.index rfl rfl rfl (I.ixS1 rfl (by omega))) rfl rfl rfl ?_ | refine LL.val (R.index rfl rfl rfl (I.ixA rfl (by omega))) rfl rfl rfl ?_ | refine LL.val (R.index rfl rfl rfl (I.ixS rfl (by omega))) rfl rfl rfl ?_ | refine LL.val (R.ltT rfl rfl rfl (by omega)) rfl rfl rfl ?_ | refine LL.val (R.ltF rfl rfl rfl (by omega)) rfl rfl rfl ?_ | refine LL.val (R.addNc rfl rfl rfl rfl (by omega)) rfl rfl rfl ?_ | refine LL.val (R.subNc rfl rfl rfl rfl (by omega) (by omega)) rfl rfl rfl ?_ | refine LL.val (R.addN rfl rfl rfl (by omega)) rfl rfl rfl ?_ | refine LL.val (R.subN rfl rfl rfl (by omega) (by omega)) rfl rfl rfl ?_ | refine LL.val (R.subcN rfl rfl rfl rfl (by omega) (by omega)) rfl rfl rfl ?_ | refine LL.val (R.addI rfl rfl rfl (by omega)) rfl rfl rfl ?_ | refine LL.val (R.subI rfl rfl rfl (by omega)) rfl rfl rfl ?_ | refine LL.val (R.mulNc rfl rfl rfl rfl (by omega)) rfl rfl rfl ?_ | refine LL.val (R.mulcN rfl rfl rfl rfl (by omega)) rfl rfl rfl ?_ | refine LL.val (R.quoNc rfl rfl rfl rfl (by omega) (by omega)) rfl rfl rfl ?_ | refine LL.val (R.remNc rfl rfl rfl rfl (by omega)) rfl rfl rfl ?_ | refine LL.val (R.mulN rfl rfl rfl (by omega)) rfl rfl rfl ?_ | refine LL.val (R.quoN rfl rfl rfl (by omega) (by omega)) rfl rfl rfl ?_ | refine LL.val (R.remN rfl rfl rfl (by omega)) rfl rfl rfl ?_ | refine LL.val (R.leT rfl rfl rfl (by omega)) rfl rfl rfl ?_ | refine LL.val (R.leF rfl rfl rfl (by omega)) rfl rfl rfl ?_ | refine LL.val (R.gtT rfl rfl rfl (by omega)) rfl rfl rfl ?_ | refine LL.val (R.gtF rfl rfl rfl (by omega)) rfl rfl rfl ?_ | refine LL.val (R.geT rfl rfl rfl (by omega)) rfl rfl rfl ?_ | refine LL.val (R.geF rfl rfl rfl (by omega)) rfl rfl rfl ?_ | refine LL.val (R.eqT rfl rfl rfl (by omega)) rfl rfl rfl ?_ | refine LL.val (R.eqF rfl rfl rfl (by omega)) rfl rfl rfl ?_ | refine LL.val (R.neT rfl rfl rfl (by omega)) rfl rfl rfl ?_ | refine LL.val (R.neF rfl rfl rfl (by omega)) rfl rfl rfl ?_ | refine LL.val (R.eqPtr rfl rfl rfl rfl rfl) rfl rfl rfl ?_ | refine LL.val (R.nePtr rfl rfl rfl rfl rfl) rfl rfl rfl ?_ | refine LL.val (R.eqSl rfl rfl rfl rfl rfl) rfl rfl rfl ?_ | refine LL.val (R.neSl rfl rfl rfl rfl rfl) rfl rfl rfl ?_ | refine LL.val (R.eqFn rfl rfl rfl rfl) rfl rfl rfl ?_ | refine LL.val (R.eqBool rfl rfl rfl rfl rfl) rfl rfl rfl ?_ | refine LL.val (R.neBool rfl rfl rfl rfl rfl) rfl rfl rfl ?_ | refine LL.val (R.xorU rfl rfl rfl (by first | omega | decide) (by first | omega | decide)) rfl rfl rfl ?_ | refine LL.val (R.addUN rfl rfl rfl (by omega)) rfl rfl rfl ?_ | refine LL.val (R.not rfl rfl) rfl rfl rfl ?_ | refine LL.val (R.lenS rfl rfl rfl rfl) rfl rfl rfl ?_ | refine LL.val (R.len rfl rfl rfl rfl) rfl rfl rfl ?_ | refine LL.val (R.pick rfl rfl rfl) rfl rfl rfl ?_ | refine LL.val (R.extract rfl rfl rfl) rfl rfl rfl ?_ | refine LL.val (R.func rfl rfl rfl) rfl rfl rfl ?_ | refine LL.val (R.slice rfl rfl rfl rfl rfl (I.slA rfl)) rfl rfl rfl ?_ | refine LL.val (R.slice rfl rfl rfl rfl rfl (I.slAto rfl (by omega))) rfl rfl rfl ?_) | refine LL.skip rfl rfl ?_))
    refine LL.lit (e := 25) [] 0 rfl rfl (fun _ => by kernel_rfl) rfl rfl ?_
    intro w1 g1 e1 r1 z1 b1
    have o1 : OwnsT uE 1 w1 w.heap.size 25 (.slice (some ⟨g1, 0, none⟩) 0 0) [] := RowL.ownsT (ts := []) uEnc r1 (by omega) (by simp [maxLen])
    (repeat (first | (first | refine CC.seq ?_ | refine CC.region ?_ | refine LL.nilS ?_ | refine CC.yes rfl ?_ | refine CC.no rfl ?_ | refine CC.block ?_ | refine EE.thenN ?_ | refine LL.nil ?_ | refine CC.exit ?_ | refine CC.ret ?_ | refine CC.skip ?_ | refine EE.thenX ?_ | refine EE.thenR ?_ | refine EE.inN ?_ | refine EE.inX ?_ | refine EE.inX' rfl ?_ | refine EE.inR ?_ | refine CC.label ?_ | refine EE.thenG ?_ | refine EE.inG ?_) | (first | refine LL.val (R.move rfl rfl) rfl rfl rfl ?_ | refine LL.val (R.assign rfl rfl) rfl rfl rfl ?_ | refine LL.val (R.nil rfl rfl) rfl rfl rfl ?_ | refine LL.val (R.field rfl rfl (I.fld rfl)) rfl rfl rfl ?_ | refine LL.val (R.load rfl rfl (I.ld1 rfl (by assumption))) rfl rfl rfl ?_ | refine LL.val (R.load rfl rfl (I.ld1 rfl (RowL.cell (by assumption) rfl))) rfl rfl rfl ?_ | refine LL.val (R.index rfl rfl rfl (I.ixA1c rfl rfl (by first | omega | decide))) rfl rfl rfl ?_ | refine LL.val (R.index rfl rfl rfl (I.ixS1c rfl rfl (by omega))) rfl rfl rfl ?_ | refine LL.val (R.index rfl rfl rfl (I.ixAc rfl rfl (by first | omega | decide))) rfl rfl rfl ?_ | refine LL.val (R.index rfl rfl rfl (I.ixSc rfl rfl (by omega))) rfl rfl rfl ?_ | refine LL.val (R.index rfl rfl rfl (I.ixA1 rfl (by omega))) rfl rfl rfl ?_ | refine LL.val (R.index rfl rfl rfl (I.ixS1 rfl (by omega))) rfl rfl rfl ?_ | refine LL.val (R.index rfl rfl rfl (I.ixA rfl (by omega))) rfl rfl rfl ?_ | refine LL.val (R.index rfl rfl rfl (I.ixS rfl (by omega))) rfl rfl rfl ?_ | refine LL.val (R.ltT rfl rfl rfl (by omega)) rfl rfl rfl ?_ | refine LL.val (R.ltF rfl rfl rfl (by omega)) rfl rfl rfl ?_ | refine LL.val (R.addNc rfl rfl rfl rfl (by omega)) rfl rfl rfl ?_ | refine LL.val (R.subNc rfl rfl rfl rfl (by omega) (by omega)) rfl rfl rfl ?_ | refine LL.val (R.addN rfl rfl rfl (by omega)) rfl rfl rfl ?_ | refine LL.val (R.subN rfl rfl rfl (by omega) (by omega)) rfl rfl rfl ?_ | refine LL.val (R.subcN rfl rfl rfl rfl (by omega) (by omega)) rfl rfl rfl ?_ | refine LL.val (R.addI rfl rfl rfl (by omega)) rfl rfl rfl ?_ | refine LL.val (R.subI rfl rfl rfl (by omega)) rfl rfl rfl ?_ | refine LL.val (R.mulNc rfl rfl rfl rfl (by omega)) rfl rfl rfl ?_ | refine LL.val (R.mulcN rfl rfl rfl rfl (by omega)) rfl rfl rfl ?_ | refine LL.val (R.quoNc rfl rfl rfl rfl (by omega) (by omega)) rfl rfl rfl ?_ | refine LL.val (R.remNc rfl rfl rfl rfl (by omega)) rfl rfl rfl ?_ | refine LL.val (R.mulN rfl rfl rfl (by omega)) rfl rfl rfl ?_ | refine LL.val (R.quoN rfl rfl rfl (by omega) (by omega)) rfl rfl rfl ?_ | refine LL.val (R.remN rfl rfl rfl (by omega)) rfl rfl rfl ?_ | refine LL.val (R.leT rfl rfl rfl (by omega)) rfl rfl rfl ?_ | refine LL.val (R.leF rfl rfl rfl (by omega)) rfl rfl rfl ?_ | refine LL.val (R.gtT rfl rfl rfl (by omega)) rfl rfl rfl ?_ | refine LL.val (R.gtF rfl rfl rfl (by omega)) rfl rfl rfl ?_ | refine LL.val (R.geT rfl rfl rfl (by omega)) rfl rfl rfl ?_ | refine LL.val (R.geF rfl rfl rfl (by omega)) rfl rfl rfl ?_ | refine LL.val (R.eqT rfl rfl rfl (by omega)) rfl rfl rfl ?_ | refine LL.val (R.eqF rfl rfl rfl (by omega)) rfl rfl rfl ?_ | refine LL.val (R.neT rfl rfl rfl (by omega)) rfl rfl rfl ?_ | refine LL.val (R.neF rfl rfl rfl (by omega)) rfl rfl rfl ?_ | refine LL.val (R.eqPtr rfl rfl rfl rfl rfl) rfl rfl rfl ?_ | refine LL.val (R.nePtr rfl rfl rfl rfl rfl) rfl rfl rfl ?_ | refine LL.val (R.eqSl rfl rfl rfl rfl rfl) rfl rfl rfl ?_ | refine LL.val (R.neSl rfl rfl rfl rfl rfl) rfl rfl rfl ?_ | refine LL.val (R.eqFn rfl rfl rfl rfl) rfl rfl rfl ?_ | refine LL.val (R.eqBool rfl rfl rfl rfl rfl) rfl rfl rfl ?_ | refine LL.val (R.neBool rfl rfl rfl rfl rfl) rfl rfl rfl ?_ | refine LL.val (R.xorU rfl rfl rfl (by first | omega | decide) (by first | omega | decide)) rfl rfl rfl ?_ | refine LL.val (R.addUN rfl rfl rfl (by omega)) rfl rfl rfl ?_ | refine LL.val (R.not rfl rfl) rfl rfl rfl ?_ | refine LL.val (R.lenS rfl rfl rfl rfl) rfl rfl rfl ?_ | refine LL.val (R.len rfl rfl rfl rfl) rfl rfl rfl ?_ | refine LL.val (R.pick rfl rfl rfl) rfl rfl rfl ?_ | refine LL.val (R.extract rfl rfl rfl) rfl rfl rfl ?_ | refine LL.val (R.func rfl rfl rfl) rfl rfl rfl ?_ | refine LL.val (R.slice rfl rfl rfl rfl rfl (I.slA rfl)) rfl rfl rfl ?_ | refine LL.val (R.slice rfl rfl rfl rfl rfl (I.slAto rfl (by omega))) rfl rfl rfl ?_) | refine LL.skip rfl rfl ?_))
    refine LL.append0 rfl rfl uEnc ElU o1 (ha.below b1) (by simp [maxLen]; omega) (by omega) b1.size rfl rfl ?_
    intro v2 w2 o2 b2
    (repeat (first | (first | refine CC.seq ?_ | refine CC.region ?_ | refine LL.nilS ?_ | refine CC.yes rfl ?_ | refine CC.no rfl ?_ | refine CC.block ?_ | refine EE.thenN ?_ | refine LL.nil ?_ | refine CC.exit ?_ | refine CC.ret ?_ | refine CC.skip ?_ | refine EE.thenX ?_ | refine EE.thenR ?_ | refine EE.inN ?_ | refine EE.inX ?_ | refine EE.inX' rfl ?_ | refine EE.inR ?_ | refine CC.label ?_ | refine EE.thenG ?_ | refine EE.inG ?_) | (first | refine LL.val (R.move rfl rfl) rfl rfl rfl ?_ | refine LL.val (R.assign rfl rfl) rfl rfl rfl ?_ | refine LL.val (R.nil rfl rfl) rfl rfl rfl ?_ | refine LL.val (R.field rfl rfl (I.fld rfl)) rfl rfl rfl ?_ | refine LL.val (R.load rfl rfl (I.ld1 rfl (by assumption))) rfl rfl rfl ?_ | refine LL.val (R.load rfl rfl (I.ld1 rfl (RowL.cell (by assumption) rfl))) rfl rfl rfl ?_ | refine LL.val (R.index rfl rfl rfl (I.ixA1c rfl rfl (by first | omega | decide))) rfl rfl rfl ?_ | refine LL.val (R.index rfl rfl rfl (I.ixS1c rfl rfl (by omega))) rfl rfl rfl ?_ | refine LL.val (R.index rfl rfl rfl (I.ixAc rfl rfl (by first | omega | decide))) rfl rfl rfl ?_ | refine LL.val (R.index rfl rfl rfl (I.ixSc rfl rfl (by omega))) rfl rfl rfl ?_ | refine LL.val (R.index rfl rfl rfl (I.ixA1 rfl (by omega))) rfl rfl rfl ?_ | refine LL.val (R.index rfl rfl rfl (I.ixS1 rfl (by omega))) rfl rfl rfl ?_ | refine LL.val (R.index rfl rfl rfl (I.ixA rfl (by omega))) rfl rfl rfl ?_ | refine LL.val (R.index rfl rfl rfl (I.ixS rfl (by omega))) rfl rfl rfl ?_ | refine LL.val (R.ltT rfl rfl rfl (by omega)) rfl rfl rfl ?_ | refine LL.val (R.ltF rfl rfl rfl (by omega)) rfl rfl rfl ?_ | refine LL.val (R.addNc rfl rfl rfl rfl (by omega)) rfl rfl rfl ?_ | refine LL.val (R.subNc rfl rfl rfl rfl (by omega) (by omega)) rfl rfl rfl ?_ | refine LL.val (R.addN rfl rfl rfl (by omega)) rfl rfl rfl ?_ | refine LL.val (R.subN rfl rfl rfl (by omega) (by omega)) rfl rfl rfl ?_ | refine LL.val (R.subcN rfl rfl rfl rfl (by omega) (by omega)) rfl rfl rfl ?_ | refine LL.val (R.addI rfl rfl rfl (by omega)) rfl rfl rfl ?_ | refine LL.val (R.subI rfl rfl rfl (by omega)) rfl rfl rfl ?_ | refine LL.val (R.mulNc rfl rfl rfl rfl (by omega)) rfl rfl rfl ?_ | refine LL.val (R.mulcN rfl rfl rfl rfl (by omega)) rfl rfl rfl ?_ | refine LL.val (R.quoNc rfl rfl rfl rfl (by omega) (by omega)) rfl rfl rfl ?_ | refine LL.val (R.remNc rfl rfl rfl rfl (by omega)) rfl rfl rfl ?_ | refine LL.val (R.mulN rfl rfl rfl (by omega)) rfl rfl rfl ?_ | refine LL.val (R.quoN rfl rfl rfl (by omega) (by omega)) rfl rfl rfl ?_ | refine LL.val (R.remN rfl rfl rfl (by omega)) rfl rfl rfl ?_ | refine LL.val (R.leT rfl rfl rfl (by omega)) rfl rfl rfl ?_ | refine LL.val (R.leF rfl rfl rfl (by omega)) rfl rfl rfl ?_ | refine LL.val (R.gtT rfl rfl rfl (by omega)) rfl rfl rfl ?_ | refine LL.val (R.gtF rfl rfl rfl (by omega)) rfl rfl rfl ?_ | refine LL.val (R.geT rfl rfl rfl (by omega)) rfl rfl rfl ?_ | refine LL.val (R.geF rfl rfl rfl (by omega)) rfl rfl rfl ?_ | refine LL.val (R.eqT rfl rfl rfl (by omega)) rfl rfl rfl ?_ | refine LL.val (R.eqF rfl rfl rfl (by omega)) rfl rfl rfl ?_ | refine LL.val (R.neT rfl rfl rfl (by omega)) rfl rfl rfl ?_ | refine LL.val (R.neF rfl rfl rfl (by omega)) rfl rfl rfl ?_ | refine LL.val (R.eqPtr rfl rfl rfl rfl rfl) rfl rfl rfl ?_ | refine LL.val (R.nePtr rfl rfl rfl rfl rfl) rfl rfl rfl ?_ | refine LL.val (R.eqSl rfl rfl rfl rfl rfl) rfl rfl rfl ?_ | refine LL.val (R.neSl rfl rfl rfl rfl rfl) rfl rfl rfl ?_ | refine LL.val (R.eqFn rfl rfl rfl rfl) rfl rfl rfl ?_ | refine LL.val (R.eqBool rfl rfl rfl rfl rfl) rfl rfl rfl ?_ | refine LL.val (R.neBool rfl rfl rfl rfl rfl) rfl rfl rfl ?_ | refine LL.val (R.xorU rfl rfl rfl (by first | omega | decide) (by first | omega | decide)) rfl rfl rfl ?_ | refine LL.val (R.addUN rfl rfl rfl (by omega)) rfl rfl rfl ?_ | refine LL.val (R.not rfl rfl) rfl rfl rfl ?_ | refine LL.val (R.lenS rfl rfl rfl rfl) rfl rfl rfl ?_ | refine LL.val (R.len rfl rfl rfl rfl) rfl rfl rfl ?_ | refine LL.val (R.pick rfl rfl rfl) rfl rfl rfl ?_ | refine LL.val (R.extract rfl rfl rfl) rfl rfl rfl ?_ | refine LL.val (R.func rfl rfl rfl) rfl rfl rfl ?_ | refine LL.val (R.slice rfl rfl rfl rfl rfl (I.slA rfl)) rfl rfl rfl ?_ | refine LL.val (R.slice rfl rfl rfl rfl rfl (I.slAto rfl (by omega))) rfl rfl rfl ?_) | refine LL.skip rfl rfl ?_))
    refine EE.ret _ rfl rfl ?_
    exact ⟨v2, rfl, o2, b1.trans (b2.mono b1.size)⟩

/-- A change under way: the row's own words, the variable that has the row, the one that has the stores. -/
structure Ch (W : World) (A gs cs gr go ob n left : Nat) (s : List Nat) (os : List Pt) : Prop where
  row : OwnsT uE 1 W A 25 (.slice (some ⟨gs, 0, none⟩) n cs) s
  box : RowL W gr 96 [.slice (some ⟨gs, 0, none⟩) n cs, .int .u64 (left : Int)]
  out : ∃ v, RowL W go 49 [v] ∧ OwnsT pE 2 W A 68 v os ∧ ∀ g, v.ownBlock = some g → g = ob ∧ g ≠ gs
  lt : A ≤ gs ∧ A ≤ gr ∧ A ≤ go ∧ A ≤ ob ∧ gs < W.heap.size ∧ gr < W.heap.size ∧ go < W.heap.size ∧ ob < W.heap.size
  ne : gs ≠ gr ∧ gs ≠ go ∧ gr ≠ go ∧ ob ≠ gr ∧ ob ≠ go
section
variable {W W' : World} {A gs cs gr go ob n left : Nat} {s : List Nat} {os : List Pt}
theorem Ch.up (C : Ch W A gs cs gr go ob n left s os) (b : Below W.heap.size W W') : Ch W' A gs cs gr go ob n left s os := by
  obtain ⟨v, h1, h2, h3⟩ := C.out
  have := b.size
  have := C.lt
  exact ⟨C.row.up b, C.box.up b, ⟨v, h1.up b, h2.up b, h3⟩, by omega, C.ne⟩
theorem Ch.reads (C : Ch W A gs cs gr go ob n left s os) : ReadsT uE 1 W (.slice (some ⟨gs, 0, none⟩) n cs) s := C.row.reads uEnc
theorem Ch.len (C : Ch W A gs cs gr go ob n left s os) : s.length = n := by
  obtain ⟨a', cap, e, _⟩ := C.reads
  cases e
  rfl
end
/-- What a store keeps. -/
abbrev KS (W : World) (gs go ob : Nat) (i : Nat) : Prop := i < W.heap.size ∧ (i ≠ gs ∧ i ≠ go ∧ i ≠ ob)
/-- What a change brings: the row, the stores, the block in which they lie. -/
def ChP (W : World) (A gs cs gr go ob n left : Nat) (s : List Nat) (os : List Pt) (W' : World) : Prop :=
  ∃ ob', Ch W' A gs cs gr go ob' n left s os ∧ (ob' = ob ∨ W.heap.size ≤ ob') ∧ Kept (KS W gs go ob) W W'
abbrev stoV (gr go : Nat) : Value := .func (.func 80) #[] #[.pointer (some ⟨gr, 0, none⟩), .pointer (some ⟨go, 0, none⟩)]
set_option maxRecDepth 100000
set_option maxHeartbeats 4000000
theorem store_any (A gs cs gr go ob n left j v : Nat) (s : List Nat) (os : List Pt) (W : World) (C : Ch W A gs cs gr go ob n left s os) (hj : j < n) (hn : n ≤ 1048576) (ho : os.length < 1048576) : Calls Try.prog 80 #[.int .i64 (j : Int), .int .u64 (v : Int), .pointer (some ⟨gr, 0, none⟩), .pointer (some ⟨go, 0, none⟩)] W fun e W' => e = .returned (.tuple #[]) ∧ ChP W A gs cs gr go ob n left (s.set j v) (os ++ [((j : Int), v)]) W' := by
  have hl := C.len
  obtain ⟨row, box, ⟨vo, hgo, out, hob⟩, hlt, hne⟩ := C
  obtain ⟨y, hy⟩ : ∃ y, s[j]? = some y := ⟨_, List.getElem?_eq_getElem (by omega)⟩
  have kpp := Kept.refl (KS W gs go ob) W
  refine X.fn Try.func80 rfl (n := 18) rfl rfl ?_
  refine CC.seq ?_
  refine CC.region ?_
  refine LL.val (R.field rfl rfl (I.fld rfl)) rfl rfl rfl ?_
  refine LL.val (R.field rfl rfl (I.fld rfl)) rfl rfl rfl ?_
  refine LL.val (R.load rfl rfl (I.ld1 rfl (RowL.cell box rfl))) rfl rfl rfl ?_
  refine LL.val (R.move rfl rfl) rfl rfl rfl ?_
  refine LL.val (R.move rfl rfl) rfl rfl rfl ?_
  refine LL.val (R.index rfl rfl rfl (I.ixS1 rfl (by omega))) rfl rfl rfl ?_
  refine LL.storeF j 0 y v rfl rfl rfl rfl (by simp) uEnc row hy (by decide) rfl rfl rfl rfl rfl ?_
  intro W2 row2 g2 z2
  clear row
  replace kpp := kpp.trans (grown_kept g2 (fun k hk => hk.1) (fun k hk e => by cases e; omega))
  replace box := box.gr g2 (by omega)
  replace hgo := hgo.gr g2 (by omega)
  replace out := out.grown g2 (fun e => (hob _ e).2 rfl)
  obtain ⟨av, cv, rfl, hcv⟩ := (out.reads pEnc).form rfl
  refine LL.nilS ?_
  refine CC.region ?_
  refine LL.val (R.load rfl rfl (I.ld1 rfl (RowL.cell hgo rfl))) rfl rfl rfl ?_
  refine LL.val (R.move rfl rfl) rfl rfl rfl ?_
  refine LL.val (R.move rfl rfl) rfl rfl rfl ?_
  refine LL.val (R.buildV rfl rfl (v := .agg #[Value.int IntKind.i64 ↑j, Value.int IntKind.u64 ↑v]) (fun _ => by kernel_rfl)) rfl rfl rfl ?_
  have la1 := box.lt
  have la2 := hgo.lt
  refine LL.lit (e := 68) [Value.int IntKind.i64 ↑j, Value.int IntKind.u64 ↑v] 1 rfl rfl (fun _ => by kernel_rfl) rfl rfl ?_
  intro Wa4 ga5 ega5 ra6 za7 ba3
  replace row2 := row2.up ba3
  replace box := box.up ba3
  replace hgo := hgo.up ba3
  replace out := out.up ba3
  replace kpp := kpp.trans (bkept ba3 (fun k hk => by have := hk.1; omega))
  refine LL.appendT2 rfl rfl pEnc ElPut out (us := [((j : Int), v)]) (RowL.readsT pEnc (ts := [((j : Int), v)]) ra6 1 (Nat.le_refl _)) (by simp only [List.length_cons, List.length_nil, maxLen]; omega) (by simp only [List.length_cons, List.length_nil]; omega) (by omega) rfl rfl ?_
  intro v' W5 o' gr5 hv'
  have z5 := gr5.size
  replace kpp := kpp.trans ⟨gr5.os, gr5.tape, gr5.output, gr5.size, fun k hk => gr5.block k (by have := hk.1; omega) (fun e => by have := (hob k e.symm).1; omega)⟩
  replace row2 := row2.keptO fun b hb => by cases hb; exact gr5.block gs (by omega) (fun e => (hob gs e.symm).2 rfl)
  replace box := box.grO gr5 (fun e => by have := (hob gr e).1; omega)
  replace hgo := hgo.grO gr5 (fun e => by have := (hob go e).1; omega)
  clear out
  obtain ⟨av', cv', rfl, hcv'⟩ := (o'.reads pEnc).form (n := os.length + 1) (by simp)
  obtain ⟨ob2, hob2, hob3⟩ : ∃ ob2, (∀ g, (Value.slice av' (os.length + 1) cv').ownBlock = some g → g = ob2 ∧ g ≠ gs) ∧ (ob2 = ob ∨ W.heap.size ≤ ob2 ∧ ob2 < W5.heap.size) := by
    rcases hv' with e | ⟨b, e, hb⟩
    · exact ⟨ob, fun g h => hob g (by rw [← e]; exact h), .inl rfl⟩
    · have lb : b < W5.heap.size := by
        rcases own_lt o' with e1 | ⟨b', e1, hb'⟩
        · rw [e1] at e; cases e
        · rw [e1] at e; cases e; exact hb'
      exact ⟨b, fun g h => by rw [e] at h; cases h; exact ⟨rfl, by omega⟩, .inr ⟨by omega, lb⟩⟩
  clear hv' hob
  refine LL.store rfl rfl rfl rfl hgo (by exact Nat.le_of_ble_eq_true rfl) rfl rfl rfl rfl ?_
  intro Wb2 rb3 bb1 zb4
  have hlbb1 := hgo.lt
  replace rb3 : RowL Wb2 _ 49 [Value.slice av' (os.length + 1) cv'] := rb3
  clear hgo
  replace row2 := row2.grown bb1 (fun e => by simp [Value.ownBlock] at e; omega)
  replace box := box.gr bb1 (by have := box.lt; omega)
  have hgo := rb3
  clear rb3
  refine LL.nil ?_
  refine EE.end _ rfl rfl ?_
  exact ⟨rfl, ob2, ⟨row2, box, ⟨_, hgo, o'.grown bb1 (fun e => by have := (hob2 _ e).1; omega), hob2⟩, by omega, by omega⟩, by omega, kpp.trans (grown_kept bb1 (fun k hk => by have := hk.1; omega) (fun k hk e => by cases e; have := hk.2; omega))⟩
end Go.Proofs.Ytfplilpefhhpnaa
