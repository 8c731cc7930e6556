/- Regions that draw their order and hold steps that make memory: what reads only goes first, the rest in each order that may be. Over any program. -/
import Derived.Test.YtajfffoaebjnlaaRange
namespace Go.Proofs.Ytajfffoaebjnlaa
set_option linter.unusedVariables false
set_option linter.unusedSimpArgs false
open Go.RowKit Go.Shelf

section
variable {P : Program} {ops : Array Oper} {Q : Exit → Act → World → Prop} {ok : World → Prop} {r : Option Nat}

/-- One step, whatever it is. -/
def actR (P : Program) (o : Oper) (K : Act → World → Prop) (a : Act) (w : World) : Prop :=
  (∃ v w', (execOp a.eval o).run P w = .ok (.value v) w' ∧ K (a.put o.dst v) w') ∨
  (∃ w', (execOp a.eval o).run P w = .ok .skip w' ∧ K (a.put o.dst undef) w') ∨
  (∃ f args w' R, (execOp a.eval o).run P w = .ok (.enter f args) w' ∧ Calls P f args w' R ∧ ∀ e w'', R e w'' → ∃ v, e = .returned v ∧ K (a.put o.dst v) w'')
def stepR (P : Program) (ops : Array Oper) (ok : World → Prop) (i : Nat) (K : Act → World → Prop) (a : Act) (w : World) : Prop :=
  match ops[i]? with
  | none => K a w
  | some o => if Region.wanted o (yielded ops a.tmps) then actR P o (fun a' w' => ok w' ∧ K a' w') a w else K (a.put o.dst undef) w
def AnyR (P : Program) (ops : Array Oper) (ok : World → Prop) (Q : Exit → Act → World → Prop) : Nat → Array Bool → Act → World → Prop
  | 0, listed, a, w => Region.ready .any ops listed = [] ∧ Q .normal a w
  | f + 1, listed, a, w => (Region.ready .any ops listed = [] → Q .normal a w) ∧ ∀ i ∈ Region.ready .any ops listed, stepR P ops ok i (AnyR P ops ok Q f (listed.setIfInBounds i true)) a w

theorem actR_mono {o : Oper} {K K' : Act → World → Prop} {a : Act} {w : World} (h : ∀ a w, K a w → K' a w) (hh : actR P o K a w) : actR P o K' a w := by
  rcases hh with ⟨v, w', h1, h2⟩ | ⟨w', h1, h2⟩ | ⟨f, args, w', R, h1, h2, h3⟩
  · exact .inl ⟨v, w', h1, h _ _ h2⟩
  · exact .inr (.inl ⟨w', h1, h _ _ h2⟩)
  · exact .inr (.inr ⟨f, args, w', R, h1, h2, fun e w'' hR => by obtain ⟨v, he, hk⟩ := h3 e w'' hR; exact ⟨v, he, h _ _ hk⟩⟩)
theorem stepR_mono {i : Nat} {K K' : Act → World → Prop} {a : Act} {w : World} (h : ∀ a w, K a w → K' a w) (hh : stepR P ops ok i K a w) : stepR P ops ok i K' a w := by
  unfold stepR at *
  split
  · rename_i ho; simp only [ho] at hh; exact h _ _ hh
  · rename_i o ho
    simp only [ho] at hh
    split
    · rename_i hw; rw [if_pos hw] at hh; exact actR_mono (fun a w hk => ⟨hk.1, h _ _ hk.2⟩) hh
    · rename_i hw; rw [if_neg hw] at hh; exact h _ _ hh
theorem wpIn_of_actR {o : Oper} {K : Act → World → Prop} {a : Act} {w : World} (hdf : dfB o.op = false) (hh : actR P o K a w) : o.wpIn (Wr r) 3 P a w K Q := by
  rcases hh with ⟨v, w', h1, h2⟩ | ⟨w', h1, h2⟩ | ⟨f, args, w', R, h1, h2, h3⟩
  · exact wpIn_of_run hdf h1 h2
  · exact wpIn_of_run hdf h1 h2
  · exact wpIn_of_run hdf h1 ⟨fun h => (by cases h), callsWr (h2.mono fun e w'' hR => by obtain ⟨v, rfl, hk⟩ := h3 e w'' hR; exact hk)⟩
theorem wpAny_of_R (hdf : ∀ (j : Nat) (o : Oper), ops[j]? = some o → dfB o.op = false) : ∀ (f : Nat) (listed : Array Bool) (a : Act) (w : World), AnyR P ops ok Q f listed a w → wpAnyIn (Wr r) 3 P .any ops Q f listed a w
  | 0, _, _, _, h => h
  | f + 1, listed, a, w, h => ⟨h.1, fun i hi => by
    have h2 := h.2 i hi
    unfold stepR at h2
    unfold wpOpIn
    split
    · rename_i ho; simp only [ho] at h2; exact wpAny_of_R hdf f _ _ _ h2
    · rename_i o ho
      simp only [ho] at h2
      split
      · rename_i hw
        rw [if_pos hw] at h2
        exact wpIn_of_actR (hdf _ _ ho) (actR_mono (fun a' w' hk => wpAny_of_R hdf f _ _ _ hk.2) h2)
      · rename_i hw
        rw [if_neg hw] at h2
        exact ⟨about_wr a, wpAny_of_R hdf f _ _ _ h2⟩⟩

/-- It yields this, in whatever world that may come. -/
def Pure (P : Program) (ops : Array Oper) (ok : World → Prop) (o : Oper) (v : Value) (a : Act) : Prop :=
  (Region.wanted o (yielded ops a.tmps) = true ∧ ∀ w, ok w → (execOp a.eval o).run P w = .ok (.value v) w ∨ ∃ f args, (execOp a.eval o).run P w = .ok (.enter f args) w ∧ Calls P f args w (fun e w' => e = .returned v ∧ w' = w)) ∨
  (Region.wanted o (yielded ops a.tmps) = false ∧ v = undef)
theorem Pure.step {i : Nat} {o : Oper} {v : Value} {a : Act} {w : World} (hi : ops[i]? = some o) (hy : Pure P ops ok o v a) (hw : ok w) {K : Act → World → Prop} (h : K (a.put o.dst v) w) : stepR P ops ok i K a w := by
  unfold stepR
  simp only [hi]
  rcases hy with ⟨hwt, hv⟩ | ⟨hwt, rfl⟩
  · rw [if_pos hwt]
    rcases hv w hw with hv | ⟨f, args, hv, hc⟩
    · exact .inl ⟨v, w, hv, hw, h⟩
    · exact .inr (.inr ⟨f, args, w, _, hv, hc, fun e w' ⟨he, hw'⟩ => ⟨v, he, by rw [hw']; exact ⟨hw, h⟩⟩⟩)
  · rw [if_neg (by rw [hwt]; simp)]; exact h
theorem Pure.same {o : Oper} {v : Value} {a a' : Act} (hy : Pure P ops ok o v a) (he : execOp a'.eval o = execOp a.eval o) (hw : Region.wanted o (yielded ops a'.tmps) = Region.wanted o (yielded ops a.tmps)) : Pure P ops ok o v a' := by
  unfold Pure at *
  rw [he, hw]
  exact hy
theorem stepR_put {j : Nat} {oi oj : Oper} {v : Value} {a : Act} {w : World} (hj : ops[j]? = some oj) (hap : oi.apart ops oj = true) (hsi : ∀ cs b, oi.op ≠ .select cs b) (hsj : ∀ cs b, oj.op ≠ .select cs b) (hw : ok w) {K : Act → World → Prop}
    (hy : Pure P ops ok oi v a) (h : stepR P ops ok j K (a.put oi.dst v) w) : stepR P ops ok j (fun a' w' => Pure P ops ok oi v a' ∧ ok w' ∧ K (a'.put oi.dst v) w') a w := by
  obtain ⟨h1, h2, h3⟩ := Oper.apart_spec hap
  have keep : ∀ (a : Act), Pure P ops ok oi v a → ∀ u, Pure P ops ok oi v (a.put oj.dst u) := fun a hy u =>
    hy.same (execOp_put oi hsi a oj.dst u h3) (wanted_put oi a oj.dst u h3)
  unfold stepR at *
  simp only [hj] at *
  rw [wanted_put oj a oi.dst v h1] at h
  split
  · rename_i hwt
    rw [if_pos hwt] at h
    unfold actR at *
    rw [execOp_put oj hsj a oi.dst v h1] at h
    rcases h with ⟨u, w', e1, e2, e3⟩ | ⟨w', e1, e2, e3⟩ | ⟨f, args, w', R, e1, e2, e3⟩
    · exact .inl ⟨u, w', e1, e2, keep a hy u, e2, by rw [← Act.put_comm a v u h2]; exact e3⟩
    · exact .inr (.inl ⟨w', e1, e2, keep a hy _, e2, by rw [← Act.put_comm a v undef h2]; exact e3⟩)
    · exact .inr (.inr ⟨f, args, w', R, e1, e2, fun e w'' hR => by
        obtain ⟨u, he, hk, hk'⟩ := e3 e w'' hR
        exact ⟨u, he, hk, keep a hy u, hk, by rw [← Act.put_comm a v u h2]; exact hk'⟩⟩)
  · rename_i hwt
    rw [if_neg hwt] at h
    exact ⟨keep a hy _, hw, by rw [← Act.put_comm a v undef h2]; exact h⟩
theorem pure_first {i : Nat} {oi : Oper} {v : Value} (hi : ops[i]? = some oi) (hsel : ∀ (j : Nat) (o : Oper) cs b, ops[j]? = some o → o.op ≠ .select cs b) :
    ∀ (f : Nat) (listed : Array Bool) (a : Act) (w : World),
      (∀ j oj, ops[j]? = some oj → j ≠ i → listed.getD j true = false → (∀ e ∈ oj.after, Region.binds .any e = true → e.on ≠ i) → oi.apart ops oj = true) →
      i ∈ Region.ready .any ops listed → ok w → Pure P ops ok oi v a → AnyR P ops ok Q f (listed.setIfInBounds i true) (a.put oi.dst v) w → AnyR P ops ok Q (f + 1) listed a w := by
  intro f
  induction f with
  | zero =>
    intro listed a w _ hr hw hy H
    refine ⟨fun h => (by rw [h] at hr; cases hr), fun j hj => ?_⟩
    by_cases hji : j = i
    · subst hji; exact hy.step hi hw H
    · have := ready_mono hj hji
      rw [H.1] at this
      cases this
  | succ f ih =>
    intro listed a w hfree hr hw hy H
    refine ⟨fun h => (by rw [h] at hr; cases hr), fun j hj => ?_⟩
    by_cases hji : j = i
    · subst hji; exact hy.step hi hw H
    · have h1 := H.2 j (ready_mono hj hji)
      obtain ⟨hjun, oj, hoj, hall⟩ := mem_ready.1 hj
      have hnot : ∀ e ∈ oj.after, Region.binds .any e = true → e.on ≠ i := fun e he hb heq => by
        have h1 := hall e he hb
        have h0 := (mem_ready.1 hr).1
        rw [heq] at h1
        rcases Nat.lt_or_ge i listed.size with h' | h'
        · simp [h'] at h0 h1; rw [h0] at h1; cases h1
        · simp [Array.getElem?_eq_none h'] at h1
      have h2 := stepR_put hoj (hfree j oj hoj hji hjun hnot) (fun cs b => hsel i oi cs b hi) (fun cs b => hsel j oj cs b hoj) hw hy h1
      have hfree' : ∀ k ok', ops[k]? = some ok' → k ≠ i → (listed.setIfInBounds j true).getD k true = false →
          (∀ e ∈ ok'.after, Region.binds .any e = true → e.on ≠ i) → oi.apart ops ok' = true := fun k ok' hk hki hun hno => by
        refine hfree k ok' hk hki ?_ hno
        by_cases hjk : j = k
        · subst hjk; exact hjun
        · rw [getD_set_ne true hjk] at hun; exact hun
      refine stepR_mono (fun a' w' h3 => ih (listed.setIfInBounds j true) a' w' hfree' (ready_mono hr (Ne.symm hji)) h3.2.1 h3.1 ?_) h2
      rw [Array.setIfInBounds_comm _ _ hji]
      exact h3.2.2
end

/-- What is left of a region, these done. -/
structure AA (P : Program) (ops : Array Oper) (ok : World → Prop) (Q : Exit → Act → World → Prop) (n : Nat) (D : List Deferred) (M : Slots) (f : Nat) (listed : Array Bool) (w : World) : Prop where
  h : ∀ a, Fr n D M a → AnyR P ops ok Q f listed a w
/-- One step of it. -/
structure SR (P : Program) (ops : Array Oper) (ok : World → Prop) (i : Nat) (K : Slots → World → Prop) (n : Nat) (D : List Deferred) (M : Slots) (w : World) : Prop where
  h : ∀ (K' : Act → World → Prop), (∀ M w, K M w → ∀ a, Fr n D M a → K' a w) → ∀ a, Fr n D M a → stepR P ops ok i K' a w
def selB (l : List Oper) : Bool := l.all fun o => !dfB o.op
def rfB (ops : Array Oper) (listed : Array Bool) (i : Nat) : Bool := (Region.ready .any ops listed).contains i && Region.free .any ops listed i && Region.noSelect ops

section
variable {P : Program} {l : List Oper} {ops : Array Oper} {Q : Exit → Act → World → Prop} {ok : World → Prop} {r : Option Nat} {n f : Nat} {D : List Deferred} {M : Slots} {w w' : World} {listed : Array Bool} {o : Oper} {v : Value}

theorem CC.free {id : Nat} (ok : World → Prop) (hm : P.follows .mixedOrders = true) (hB : selB l = true) (h : AA P l.toArray ok Q n D M l.length (Array.replicate l.length false) w.drew) : CC r P Q n D M (.region id l.toArray true) w := CC.mk fun a F => by
  have hdf : ∀ (j : Nat) (o : Oper), l.toArray[j]? = some o → dfB o.op = false := fun j o ho => by
    have := List.all_eq_true.1 hB o (by simpa using List.mem_of_getElem? (by simpa using ho))
    simpa using this
  refine wpIn_region_any hm (wpAny_of_R (ok := ok) hdf _ _ _ _ ?_)
  simpa using h.h a F
theorem AA.pure (i : Nat) (hi : ops[i]? = some o) (hw : ok w) (hB : rfB ops listed i = true) (hr : ∀ w', ok w' → Runs P n D M o w' (.value v) w') (hd : dstB n o.dst = true) (hg : wantB ops M o.guard = some true) (k : AA P ops ok Q n D (putM M o.dst v) f (listed.setIfInBounds i true) w) : AA P ops ok Q n D M (f + 1) listed w := AA.mk fun a F => by
  simp only [rfB, Bool.and_eq_true] at hB
  exact pure_first hi (Region.noSelect_spec hB.2) f listed a w (Region.free_spec hi hB.1.2) (by simpa using hB.1.1) hw (.inl ⟨F.want hg, fun w' hw' => .inl (hr w' hw' a F)⟩) (k.h _ (F.put _ _ hd))
theorem AA.pureC {g : FuncId} {args : Array Value} (i : Nat) (hi : ops[i]? = some o) (hw : ok w) (hB : rfB ops listed i = true) (hr : ∀ w', Runs P n D M o w' (.enter g args) w') (hc : ∀ w', ok w' → Calls P g args w' fun e w'' => e = .returned v ∧ w' = w'') (hd : dstB n o.dst = true) (hg : wantB ops M o.guard = some true) (k : AA P ops ok Q n D (putM M o.dst v) f (listed.setIfInBounds i true) w) : AA P ops ok Q n D M (f + 1) listed w := AA.mk fun a F => by
  simp only [rfB, Bool.and_eq_true] at hB
  exact pure_first hi (Region.noSelect_spec hB.2) f listed a w (Region.free_spec hi hB.1.2) (by simpa using hB.1.1) hw (.inl ⟨F.want hg, fun w' hw' => .inr ⟨g, args, hr w' a F, (hc w' hw').mono fun _ _ h => ⟨h.1, h.2.symm⟩⟩⟩) (k.h _ (F.put _ _ hd))
theorem AA.off (i : Nat) (hi : ops[i]? = some o) (hw : ok w) (hB : rfB ops listed i = true) (hd : dstB n o.dst = true) (hg : wantB ops M o.guard = some false) (k : AA P ops ok Q n D (putM M o.dst undef) f (listed.setIfInBounds i true) w) : AA P ops ok Q n D M (f + 1) listed w := AA.mk fun a F => by
  simp only [rfB, Bool.and_eq_true] at hB
  exact pure_first hi (Region.noSelect_spec hB.2) f listed a w (Region.free_spec hi hB.1.2) (by simpa using hB.1.1) hw (.inr ⟨F.want hg, rfl⟩) (k.h _ (F.put _ _ hd))
theorem AA.done (hr : Region.ready .any ops listed = []) (k : EE Q n D M .normal w) : AA P ops ok Q n D M f listed w := AA.mk fun a F => by
  cases f with
  | zero => exact ⟨hr, k.h a F⟩
  | succ f => exact ⟨fun _ => k.h a F, fun i hi => by rw [hr] at hi; cases hi⟩
theorem AA.fork (is : List Nat) (hr : Region.ready .any ops listed = is) (hne : is ≠ []) (k : ∀ i ∈ is, SR P ops ok i (fun M w => AA P ops ok Q n D M f (listed.setIfInBounds i true) w) n D M w) : AA P ops ok Q n D M (f + 1) listed w := AA.mk fun a F =>
  ⟨fun h => absurd (hr.symm.trans h) hne, fun i hi => (k i (by rw [← hr]; exact hi)).h _ (fun _ _ hk a F => hk.h a F) a F⟩
theorem AA.one (i : Nat) (hr : Region.ready .any ops listed = [i]) (k : SR P ops ok i (fun M w => AA P ops ok Q n D M f (listed.setIfInBounds i true) w) n D M w) : AA P ops ok Q n D M (f + 1) listed w := .fork [i] hr (by simp) (fun j hj => by simp at hj; subst hj; exact k)
theorem AA.two (i j : Nat) (hr : Region.ready .any ops listed = [i, j]) (k : SR P ops ok i (fun M w => AA P ops ok Q n D M f (listed.setIfInBounds i true) w) n D M w) (k2 : SR P ops ok j (fun M w => AA P ops ok Q n D M f (listed.setIfInBounds j true) w) n D M w) : AA P ops ok Q n D M (f + 1) listed w :=
  .fork [i, j] hr (by simp) (fun m hm => by simp at hm; rcases hm with rfl | rfl; exact k; exact k2)
theorem SR.val {i : Nat} {K : Slots → World → Prop} (hi : ops[i]? = some o) (hr : Runs P n D M o w (.value v) w') (hd : dstB n o.dst = true) (hg : wantB ops M o.guard = some true) (hok : ok w') (k : K (putM M o.dst v) w') : SR P ops ok i K n D M w := SR.mk fun K' hK a F => by
  unfold stepR
  simp only [hi]
  rw [if_pos (F.want hg)]
  exact .inl ⟨v, w', hr a F, hok, hK _ _ k _ (F.put _ _ hd)⟩
theorem SR.call {g : FuncId} {args : Array Value} {R : Ending → World → Prop} {i : Nat} {K : Slots → World → Prop} (hi : ops[i]? = some o) (hr : Runs P n D M o w (.enter g args) w') (hd : dstB n o.dst = true) (hg : wantB ops M o.guard = some true) (hc : Calls P g args w' R) (k : ∀ e w'', R e w'' → ∃ v, e = .returned v ∧ ok w'' ∧ K (putM M o.dst v) w'') : SR P ops ok i K n D M w := SR.mk fun K' hK a F => by
  unfold stepR
  simp only [hi]
  rw [if_pos (F.want hg)]
  exact .inr (.inr ⟨g, args, w', R, hr a F, hc, fun e w'' hR => by
    obtain ⟨v, he, h1, h2⟩ := k e w'' hR
    exact ⟨v, he, h1, hK _ _ h2 _ (F.put _ _ hd)⟩⟩)
end
end Go.Proofs.Ytajfffoaebjnlaa
