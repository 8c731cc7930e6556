/- One result that lies in a variable, behind ranges; loops of so many rounds, each by itself; min and max. For any seat. -/
import Derived.Test.YtajfffoaebjnlaaRes
import Derived.Test.YtajfffoaebjnlaaKept
import Derived.Test.YtajfffoaebjnlaaSeq
import Derived.Test.YtajfffoaebjnlaaRange
import Derived.Test.YtajfffoaebjnlaaTGrow
namespace Go.Proofs.Ytajfffoaebjnlaa
set_option linter.unusedVariables false
set_option linter.unusedSimpArgs false
open Go.RowKit Go.Shelf

section
variable {P : Program} {fn : Func} {R : Ending → World → Prop} {n : Nat} {D : List Deferred} {M : Slots} {w : World} {x : ResultVar} {u : Value} {a : Act} {r : Option Nat} {c : Code} {Q : Exit → Act → World → Prop} {m : Nat}
theorem results1_run (F : Fr n D M a) (h : fn.results = #[x]) (hx : rv P w M x u) : (results fn a.tmps).run P w = .ok u w := by
  unfold results
  rw [h]
  cases x with
  | tmp t =>
    have g1 := F.get t _ hx
    simp only [List.mapM_toArray, List.mapM_cons, List.mapM_nil, g1]
    simp only [bind_assoc, pure_bind, Sem.run_bind, Sem.run_map, Sem.run_pure, Result.andThen_ok]
    rfl
  | cell s t =>
    obtain ⟨p, h0, h1⟩ := hx
    have g1 := F.get s _ h0
    simp only [List.mapM_toArray, List.mapM_cons, List.mapM_nil, g1, asAddr]
    simp only [bind_assoc, pure_bind, Sem.run_bind, Sem.run_map, Sem.run_pure, h1, Result.andThen_ok]
    rfl
theorem EE.retM1 (h : fn.results = #[x]) (hx : rv P w M x u) (hR : R (.returned u) w) : EE (calmP (bodyPostM Fence.wide 3 P fn R)) n [] M .ret w := EE.mk fun a F => by
  show LeavesInM Fence.wide 3 P fn a.tmps R a.defers .returning w
  rw [F.defers]
  exact ⟨_, results1_run F h hx, hR⟩
/-- Behind two ranges. -/
theorem EE.retNN {E1 E2 : Nat} (hE1 : w.heap[E1]? = some (.deferred (some []))) (hE2 : w.heap[E2]? = some (.deferred (some []))) (hne : E1 ≠ E2) (h : fn.results = #[x]) (hx : rv P (taken E1 (taken E2 w)) M x u) (hR : R (.returned u) (taken E1 (taken E2 w))) : EE (calmP (bodyPostM Fence.wide 3 P fn R)) n [mark E2, mark E1] M .ret w := EE.mk fun a F => by
  show LeavesInM Fence.wide 3 P fn a.tmps R a.defers .returning w
  rw [F.defers]
  have hE1' : (taken E2 w).heap[E1]? = some (.deferred (some [])) := (World.putObj_heap_other hne).trans hE1
  refine ⟨by simp, .inl ⟨_, _, rfl, run_takeDeferred hE2, ?_⟩⟩
  refine ⟨by simp, .inl ⟨_, _, rfl, run_takeDeferred hE1', ?_⟩⟩
  exact ⟨_, results1_run (P := P) F h hx, hR⟩
/-- Behind one range. -/
theorem EE.retN1 {E : Nat} (hE : w.heap[E]? = some (.deferred (some []))) (h : fn.results = #[x]) (hx : rv P (taken E w) M x u) (hR : R (.returned u) (taken E w)) : EE (calmP (bodyPostM Fence.wide 3 P fn R)) n [mark E] M .ret w := EE.mk fun a F => by
  show LeavesInM Fence.wide 3 P fn a.tmps R a.defers .returning w
  rw [F.defers]
  refine ⟨by simp, .inl ⟨_, _, rfl, run_takeDeferred hE, ?_⟩⟩
  exact ⟨_, results1_run (P := P) F h hx, hR⟩
theorem taken_up {g t E : Nat} {xs : List Value} (h : RowL w g t xs) (hne : g ≠ E) : RowL (taken E w) g t xs := by
  have gt : w.grownBy (taken E w) (some E) := grownBy_putObj' _ _ _
  exact h.same (gt.block g h.lt (by simpa using hne))
/-- A loop of so many rounds at most, each by itself. -/
structure RN (r : Option Nat) (P : Program) (c : Code) (Q : Exit → Act → World → Prop) (n : Nat) (D : List Deferred) (M : Slots) (m : Nat) (w : World) : Prop where
  h : ∀ a, Fr n D M a → Code.roundsIn (Wr r) 3 P c Q m a w
theorem CC.loopN (m : Nat) (h : RN r P c Q n D M m w) : CC r P Q n D M (.loop c) w := CC.mk fun a F => wpIn_loop_rounds m (h.h a F)
theorem RN.step (h : CC r P (Exit.then (fun a' w' => Code.roundsIn (Wr r) 3 P c Q m a' w') Q) n D M c w) : RN r P c Q n D M (m + 1) w := RN.mk fun a F => h.h a F
theorem RN.keep (L : List (Nat × Value)) (hL : Fits M L) (h : RN r P c Q n D (sl L) m w) : RN r P c Q n D M m w := RN.mk fun a F => h.h a (F.keep L hL)
theorem EE.again (h : RN r P c Q n D M m w) : EE (Exit.then (fun a' w' => Code.roundsIn (Wr r) 3 P c Q m a' w') Q) n D M .normal w := EE.mk fun a F => h.h a F
theorem R.max {o : Oper} {xs : Array Operand} {ts : Array TypeId} {k : IntKind} {y z : Int} (ho : o.op = .call { callee := .builtin .max, args := xs, argTypes := ts }) (hx : evsM M xs.toList = some [.int k y, .int k z]) : Runs P n D M o w (.value (.int k (if y < z then z else y))) w := R.builtin ho hx fun cs => by
  simp [Go.builtin, Builtin.max_, Builtin.max2]
theorem R.min {o : Oper} {xs : Array Operand} {ts : Array TypeId} {k : IntKind} {y z : Int} (ho : o.op = .call { callee := .builtin .min, args := xs, argTypes := ts }) (hx : evsM M xs.toList = some [.int k y, .int k z]) : Runs P n D M o w (.value (.int k (if z < y then z else y))) w := R.builtin ho hx fun cs => by
  simp [Go.builtin, Builtin.min_, Builtin.min2]
end
end Go.Proofs.Ytajfffoaebjnlaa
