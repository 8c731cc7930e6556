/- Equal arrays of numbers. Over any program. -/
import Derived.Test.YtajfffoaebjnlaaEqS
import Derived.Test.YtajfffoaebjnlaaArr
namespace Go.Proofs.Ytajfffoaebjnlaa
set_option linter.unusedVariables false
set_option linter.unusedSimpArgs false
open Go.RowKit Go.Shelf
section
variable {P : Program} {w : World} {n : Nat} {D : List Deferred} {M : Slots} {o : Oper} {x y : Operand} {t u : TypeId}
theorem eqI_ints {d : Nat} {e : TypeId} {k kk : IntKind} {xa xb : List Int} (he : P.underlying e = some (.int kk)) : ∀ (is : List Nat), (∀ i ∈ is, i < xa.length ∧ i < xb.length) →
    ∃ cs, eqI (eqC P (d + 1) e) 1 (intsZ k xa) (intsZ k xb) is = some cs ∧ (cs.all id = true ↔ ∀ i ∈ is, xa[i]? = xb[i]?)
  | [], _ => ⟨[], rfl, by simp⟩
  | i :: is, h => by
    obtain ⟨cs, h1, h2⟩ := eqI_ints (d := d) (k := k) he is fun j hj => h j (by simp [hj])
    obtain ⟨ha, hb⟩ := h i (by simp)
    have g : ∀ (zs : List Int) (hz : i < zs.length), ((intsZ k zs).drop (i * 1)).take 1 = [.int k zs[i]] := fun zs hz => by
      rw [Nat.mul_one, List.drop_eq_getElem_cons (by simpa using hz)]
      simp
    refine ⟨[decide (xa[i] = xb[i])] ++ cs, ?_, ?_⟩
    · simp only [eqI, g xa ha, g xb hb, h1]
      simp [eqC, he]
    · simp only [List.all_append, List.all_cons, List.all_nil, id, Bool.and_true, Bool.and_eq_true, decide_eq_true_eq, h2, List.mem_cons, forall_eq_or_imp]
      rw [List.getElem?_eq_getElem ha, List.getElem?_eq_getElem hb]
      simp
theorem eqC_ints {m : Nat} {e : TypeId} {k kk : IntKind} {xa xb : List Int} (hu : P.underlying t = some (.array m e)) (he : P.underlying e = some (.int kk)) (hc : P.cellsOf e = 1) (hm : m ≠ 0) (ha : xa.length = m) (hb : xb.length = m) : ∃ cs, eqC P 9 t (intsZ k xa) (intsZ k xb) = some cs ∧ cs.all id = decide (xa = xb) := by
  obtain ⟨cs, h1, h2⟩ := eqI_ints (P := P) (d := 7) (k := k) (xa := xa) (xb := xb) he (List.range m) fun i hi => by
    have := List.mem_range.1 hi
    omega
  refine ⟨cs, ?_, ?_⟩
  · show eqC P (8 + 1) t _ _ = _
    simp only [eqC, hu, hm, if_false, hc]
    exact h1
  · rw [Bool.eq_iff_iff, h2, decide_eq_true_eq]
    constructor
    · intro h
      refine List.ext_getElem? fun i => ?_
      by_cases hi : i < m
      · exact h i (List.mem_range.2 hi)
      · rw [List.getElem?_eq_none (by omega), List.getElem?_eq_none (by omega)]
    · rintro rfl i _
      rfl
theorem R.eqZT {m : Nat} {e : TypeId} {k kk : IntKind} {xa xb : List Int} (ho : o.op = .binOp .eql t x y u) (hx : evM M x = some (.agg (intsZ k xa).toArray)) (hy : evM M y = some (.agg (intsZ k xb).toArray)) (hu : P.underlying t = some (.array m e)) (he : P.underlying e = some (.int kk)) (hc : P.cellsOf e = 1) (hm : m ≠ 0) (ht : aggB P t = true) (hg : P.eqGuardType P.depth t = false) (ha : xa.length = m) (hb : xb.length = m) (h : xa = xb) : Runs P n D M o w (.value (.bool true)) w := by
  obtain ⟨cs, h1, h2⟩ := eqC_ints (k := k) hu he hc hm ha hb
  exact R.eqST ho hx hy ht hg h1 h2 h
theorem R.eqZF {m : Nat} {e : TypeId} {k kk : IntKind} {xa xb : List Int} (ho : o.op = .binOp .eql t x y u) (hx : evM M x = some (.agg (intsZ k xa).toArray)) (hy : evM M y = some (.agg (intsZ k xb).toArray)) (hu : P.underlying t = some (.array m e)) (he : P.underlying e = some (.int kk)) (hc : P.cellsOf e = 1) (hm : m ≠ 0) (ht : aggB P t = true) (hg : P.eqGuardType P.depth t = false) (ha : xa.length = m) (hb : xb.length = m) (h : xa ≠ xb) : Runs P n D M o w (.value (.bool false)) w := by
  obtain ⟨cs, h1, h2⟩ := eqC_ints (k := k) hu he hc hm ha hb
  exact R.eqSF ho hx hy ht hg h1 h2 h
theorem R.neZT {m : Nat} {e : TypeId} {k kk : IntKind} {xa xb : List Int} (ho : o.op = .binOp .neq t x y u) (hx : evM M x = some (.agg (intsZ k xa).toArray)) (hy : evM M y = some (.agg (intsZ k xb).toArray)) (hu : P.underlying t = some (.array m e)) (he : P.underlying e = some (.int kk)) (hc : P.cellsOf e = 1) (hm : m ≠ 0) (ht : aggB P t = true) (hg : P.eqGuardType P.depth t = false) (ha : xa.length = m) (hb : xb.length = m) (h : xa = xb) : Runs P n D M o w (.value (.bool false)) w := by
  obtain ⟨cs, h1, h2⟩ := eqC_ints (k := k) hu he hc hm ha hb
  exact R.neST ho hx hy ht hg h1 h2 h
theorem R.neZF {m : Nat} {e : TypeId} {k kk : IntKind} {xa xb : List Int} (ho : o.op = .binOp .neq t x y u) (hx : evM M x = some (.agg (intsZ k xa).toArray)) (hy : evM M y = some (.agg (intsZ k xb).toArray)) (hu : P.underlying t = some (.array m e)) (he : P.underlying e = some (.int kk)) (hc : P.cellsOf e = 1) (hm : m ≠ 0) (ht : aggB P t = true) (hg : P.eqGuardType P.depth t = false) (ha : xa.length = m) (hb : xb.length = m) (h : xa ≠ xb) : Runs P n D M o w (.value (.bool true)) w := by
  obtain ⟨cs, h1, h2⟩ := eqC_ints (k := k) hu he hc hm ha hb
  exact R.neSF ho hx hy ht hg h1 h2 h
end
end Go.Proofs.Ytajfffoaebjnlaa
