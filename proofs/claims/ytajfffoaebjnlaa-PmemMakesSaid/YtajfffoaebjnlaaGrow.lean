/- One element is appended to a slice that is full: a new row. Over any program. -/
import Derived.Test.YtajfffoaebjnlaaKit
import Derived.Deep.RegionLawGrows
import Derived.Deep.RegionWith
namespace Go.Proofs.Ytajfffoaebjnlaa
set_option linter.unusedVariables false
set_option linter.unusedSimpArgs false
open Go.RowKit

theorem step_full {P : Program} {T e : TypeId} {z : Value} {bytes : Nat} {ops : Array Oper} {o : Oper} {a : Act} {w : World} {K : Act → World → Prop} {Q : Exit → Act → World → Prop} {E : Prop} (I : El P T e z bytes) {s x : Operand}
    (hgd : o.guard = none) (ho : o.op = .call { callee := .builtin .append, args := #[s, x], argTypes := #[T, T] })
    {ao : Option Addr} {n c : Nat} {u : Value} {g : Addr} {xs : List Value} (hs : a.eval s = .slice ao n n) (hx : a.eval x = .slice (some g) 1 c) (hr : Reads w (.slice ao n n) xs) (hnew : w.cell? g = some u) (h1 : u.oneCell' = true)
    (hb : (n + 1) * bytes ≤ 140737488355328) (h63 : n + 1 ≤ maxLen)
    (h : ∀ g cap w', w'.ownsRow w.heap.size e 1 (.slice (some ⟨g, 0, none⟩) (n + 1) cap) (n + 1) (xs ++ [u]) → w.grownBy w' none → K (a.put o.dst (.slice (some ⟨g, 0, none⟩) (n + 1) cap)) w') :
    if Region.wanted o (yielded ops a.tmps) = true then Oper.wp P o a w K Q else E := by
  obtain ⟨i, hi, hz, hsz, hby⟩ := I.info
  have hzs : z.cells.size = 1 := by rw [I.one]; rfl
  obtain ⟨a', cap', e', _, hcells⟩ := hr
  have hxl : xs.length = n := by cases e'; rfl
  have ha : a' = ao := by cases e'; rfl
  subst ha
  refine step_append_grows hgd s x T ho e i z 1 bytes I.under hi hz hsz hby hzs (by decide) a' n n xs hs ?_ (by omega) ?_ g 1 c [u] hx rfl ?_ ?_ (by omega) h63 hb ?_
  · intro hn
    have : xs = [] := by
      cases xs with
      | nil => rfl
      | cons y r =>
        obtain ⟨b, off, hb', _⟩ := hcells (by simp)
        rw [hn] at hb'; cases hb'
    subst this
    simp at hxl
    exact ⟨hxl.symm, hxl.symm⟩
  · intro b hb' j v hj
    have hlt : j < xs.length := by
      rcases Nat.lt_or_ge j xs.length with h | h
      · exact h
      · rw [List.getElem?_eq_none h] at hj; cases hj
    obtain ⟨b2, off, hb2, _, hc⟩ := hcells (by intro h0; rw [h0] at hlt; simp at hlt)
    rw [hb2] at hb'; cases hb'
    rw [Addr.add_lit, hc j hlt, hj]
  · intro j u' hj
    cases j with
    | zero => simp at hj; subst hj; simpa [Addr.add] using hnew
    | succ j => simp at hj
  · intro u' hu; simp at hu; subst hu; exact h1
  · intro v' w' hown hg
    rcases hown.2 with ⟨_, h0⟩ | ⟨g', cap, cur, rfl, _⟩
    · exact absurd h0 (by omega)
    · exact h g' cap w' hown hg

/-- A call of a function, by its contract, as one step of a region that draws its order. -/
theorem step_call1 {P : Program} {ops : Array Oper} {o : Oper} {a : Act} {w : World} {K : Act → World → Prop} {Q : Exit → Act → World → Prop} {E : Prop}
    (hgd : o.guard = none) {f : FuncId} {x : Operand} {ts : Array TypeId} (ho : o.op = .call { callee := .value (.func f), args := #[x], argTypes := ts }) {vx : Value} (hx : a.eval x = vx)
    (eg : ∀ args w, (callFunc f args).run P w = .ok (.enter f args) w) {R : Ending → World → Prop} (hc : Calls P f #[vx] w R) (h : ∀ e w', R e w' → ∃ v, e = .returned v ∧ K (a.put o.dst v) w') :
    if Region.wanted o (yielded ops a.tmps) = true then Oper.wp P o a w K Q else E := by
  have hw : Region.wanted o (yielded ops a.tmps) = true := by simp [Region.wanted, hgd]
  rw [if_pos hw]
  have hf : a.eval (.func f) = .func (.func f) #[] #[] := by simp [Act.eval]
  have hr : (execOp a.eval o).run P w = .ok (.enter f #[vx]) w := by
    unfold execOp
    simp only [ho]
    simp [resolve, invoke, hf, go_sem, eg]
    rw [← hx]; cases x <;> simp [Act.eval]
  unfold Oper.wp
  rw [hr, Oper.upon_enter]
  refine hc.mono ?_
  intro e w' hR
  obtain ⟨v, rfl, hK⟩ := h e w' hR
  exact hK

/-- The same where the operation is guarded, and wanted. -/
theorem step_call1w {P : Program} {ops : Array Oper} {o : Oper} {a : Act} {w : World} {K : Act → World → Prop} {Q : Exit → Act → World → Prop} {E : Prop}
    (hw : Region.wanted o (yielded ops a.tmps) = true) {f : FuncId} {x : Operand} {ts : Array TypeId} (ho : o.op = .call { callee := .value (.func f), args := #[x], argTypes := ts }) {vx : Value} (hx : a.eval x = vx)
    (eg : ∀ args w, (callFunc f args).run P w = .ok (.enter f args) w) {R : Ending → World → Prop} (hc : Calls P f #[vx] w R) (h : ∀ e w', R e w' → ∃ v, e = .returned v ∧ K (a.put o.dst v) w') :
    if Region.wanted o (yielded ops a.tmps) = true then Oper.wp P o a w K Q else E := by
  rw [if_pos hw]
  have hf : a.eval (.func f) = .func (.func f) #[] #[] := by simp [Act.eval]
  have hr : (execOp a.eval o).run P w = .ok (.enter f #[vx]) w := by
    unfold execOp
    simp only [ho]
    simp [resolve, invoke, hf, go_sem, eg]
    rw [← hx]; cases x <;> simp [Act.eval]
  unfold Oper.wp
  rw [hr, Oper.upon_enter]
  refine hc.mono ?_
  intro e w' hR
  obtain ⟨v, rfl, hK⟩ := h e w' hR
  exact hK
end Go.Proofs.Ytajfffoaebjnlaa
