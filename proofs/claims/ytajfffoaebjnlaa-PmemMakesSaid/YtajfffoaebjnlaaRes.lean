/- Two results, some of which lie in variables' cells. Over any program. -/
import Derived.Test.YtajfffoaebjnlaaRange
namespace Go.Proofs.Ytajfffoaebjnlaa
set_option linter.unusedVariables false
set_option linter.unusedSimpArgs false
open Go.RowKit Go.Shelf

section
variable {P : Program} {fn : Func} {R : Ending → World → Prop} {n : Nat} {D : List Deferred} {M : Slots} {w : World} {x y : ResultVar} {u v : Value} {a : Act}
/-- What a result's variable holds. -/
def rv (P : Program) (w : World) (M : Slots) : ResultVar → Value → Prop
  | .tmp t, v => M t = some v
  | .cell s t, v => ∃ p, M s = some (.pointer (some p)) ∧ (loadVar t p).run P w = .ok v w
theorem results2_run (F : Fr n D M a) (h : fn.results = #[x, y]) (hx : rv P w M x u) (hy : rv P w M y v) : (results fn a.tmps).run P w = .ok (.tuple #[u, v]) w := by
  unfold results
  rw [h]
  cases x with
  | tmp t =>
    have g1 := F.get t _ hx
    cases y with
    | tmp t2 =>
      have g2 := F.get t2 _ hy
      simp only [List.mapM_toArray, List.mapM_cons, List.mapM_nil, g1, g2]
      simp only [bind_assoc, pure_bind, Sem.run_bind, Sem.run_map, Sem.run_pure, Result.andThen_ok]
      rfl
    | cell s2 t2 =>
      obtain ⟨p2, h2, h3⟩ := hy
      have g2 := F.get s2 _ h2
      simp only [List.mapM_toArray, List.mapM_cons, List.mapM_nil, g1, g2, asAddr]
      simp only [bind_assoc, pure_bind, Sem.run_bind, Sem.run_map, Sem.run_pure, h3, Result.andThen_ok]
      rfl
  | cell s t =>
    obtain ⟨p, h0, h1⟩ := hx
    have g1 := F.get s _ h0
    cases y with
    | tmp t2 =>
      have g2 := F.get t2 _ hy
      simp only [List.mapM_toArray, List.mapM_cons, List.mapM_nil, g1, g2, asAddr]
      simp only [bind_assoc, pure_bind, Sem.run_bind, Sem.run_map, Sem.run_pure, h1, Result.andThen_ok]
      rfl
    | cell s2 t2 =>
      obtain ⟨p2, h2, h3⟩ := hy
      have g2 := F.get s2 _ h2
      simp only [List.mapM_toArray, List.mapM_cons, List.mapM_nil, g1, g2, asAddr]
      simp only [bind_assoc, pure_bind, Sem.run_bind, Sem.run_map, Sem.run_pure, h1, h3, Result.andThen_ok]
      rfl
theorem EE.ret2 (h : fn.results = #[x, y]) (hx : rv P w M x u) (hy : rv P w M y v) (hR : R (.returned (.tuple #[u, v])) w) : EE (bodyPost P fn R) n [] M .ret w := EE.mk fun a F => ⟨F.defers, _, results2_run F h hx hy, hR⟩
/-- In a function that ranges: ahead of all ranges. -/
theorem EE.retM2 (h : fn.results = #[x, y]) (hx : rv P w M x u) (hy : rv P w M y v) (hR : R (.returned (.tuple #[u, v])) w) : EE (calmP (bodyPostM Fence.wide 3 P fn R)) n [] M .ret w := EE.mk fun a F => by
  show LeavesInM Fence.wide 3 P fn a.tmps R a.defers .returning w
  rw [F.defers]
  exact ⟨_, results2_run F h hx hy, hR⟩
/-- Behind one range. -/
theorem EE.retN2 {E : Nat} (hE : w.heap[E]? = some (.deferred (some []))) (h : fn.results = #[x, y]) (hx : rv P (taken E w) M x u) (hy : rv P (taken E w) M y v) (hR : R (.returned (.tuple #[u, v])) (taken E w)) : EE (calmP (bodyPostM Fence.wide 3 P fn R)) n [mark E] M .ret w := EE.mk fun a F => by
  show LeavesInM Fence.wide 3 P fn a.tmps R a.defers .returning w
  rw [F.defers]
  refine ⟨by simp, .inl ⟨_, _, rfl, run_takeDeferred hE, ?_⟩⟩
  exact ⟨_, results2_run (P := P) F h hx hy, hR⟩
end
end Go.Proofs.Ytajfffoaebjnlaa
