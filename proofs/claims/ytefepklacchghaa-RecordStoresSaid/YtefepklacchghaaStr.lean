/- string(b), and small facts on draws: any program. -/
import Derived.Test.YtefepklacchghaaB
namespace Go.Proofs.Ytefepklacchghaa
set_option linter.unusedVariables false
set_option linter.unusedSimpArgs false
open Go.RowKit

/-- 'string(b)' at a plain region's list. -/
theorem list_str {ops : Array Oper} {rest : List Oper} {o : Oper} {a : Act} {w : World} {Q : Exit → Act → World → Prop} {x : Operand} {v : Value} {bs : List Nat} (hw : Region.wanted o (yielded ops a.tmps) = true)
    (ho : o.op = .convert 57 9 x) (hx : a.eval x = v) (hr : Reads w v (ints .u8 bs)) (h : wpList Try.prog ops Q rest (a.put o.dst (.string (strB bs))) w) : wpList Try.prog ops Q (o :: rest) a w :=
  list_run hw (by
    unfold execOp
    simp only [ho, hx, Sem.run_bind]
    rw [run_str Try.underlying57 Try.underlying5 Try.underlying9 hr]
    rfl) h

theorem quiet_bel {P : Program} {f : FuncId} {args : Array Value} {w : World} {v : Value} (h : Calls P f args w fun e w' => e = .returned v ∧ ∃ n, w' = w.drewN n) : Calls P f args w fun e w' => e = .returned v ∧ Below w.heap.size w w' :=
  h.mono fun _ _ ⟨he, n, hw⟩ => ⟨he, by subst hw; exact ⟨rfl, rfl, rfl, Nat.le_refl _, fun _ _ => rfl⟩⟩

theorem Below.drewN {B : Nat} {a w : World} (h : Below B a w) (n : Nat) : Below B a (w.drewN n) := ⟨h.os, h.tape, h.output, h.size, h.block⟩

theorem str_run {w : World} {v : Value} {bs : List Nat} (h : Reads w v (ints .u8 bs)) : (convert 57 9 v).run Try.prog w = .ok (.string (strB bs)) w :=
  run_str Try.underlying57 Try.underlying5 Try.underlying9 h

end Go.Proofs.Ytefepklacchghaa
