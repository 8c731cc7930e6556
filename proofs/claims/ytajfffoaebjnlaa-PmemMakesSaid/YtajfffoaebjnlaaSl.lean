/- Parts of slices. Over any program. -/
import Derived.Test.YtajfffoaebjnlaaAuto
import Derived.Test.YtajfffoaebjnlaaGrow
import Derived.Test.YtajfffoaebjnlaaRes1
import Derived.Test.YtajfffoaebjnlaaFree
namespace Go.Proofs.Ytajfffoaebjnlaa
set_option linter.unusedVariables false
set_option linter.unusedSimpArgs false
open Go.RowKit Go.Shelf
section
variable {P : Program} {w : World} {T : TypeId} {e k : Nat}
theorem I.slS {b off len cap lo hi : Nat} (h : slB P T = some (e, k)) (h1 : lo ≤ hi) (h2 : hi ≤ cap) (h3 : lo < cap) : (Instr.sliceAt T (.slice (some ⟨b, off, none⟩) len cap) (some (.int .i64 (lo : Int))) (some (.int .i64 (hi : Int))) none).run P w = .ok (.slice (some ⟨b, off + lo * k, none⟩) (hi - lo) (cap - lo)) w := by
  refine slAt_sl h ?_
  obtain ⟨hu, hs⟩ := sl_of h
  obtain ⟨i, hi', hsz⟩ : ∃ i, P.info? e = some i ∧ i.size = k := by
    unfold szB at hs
    cases hq : P.info? e with
    | none => rw [hq] at hs; cases hs
    | some i => rw [hq] at hs; exact ⟨i, rfl, by simpa using hs⟩
  have hne : ¬ cap = lo := by omega
  simp [Instr.slice, run_underlying hu, Instr.sliceBounds, run_sliceBound, sizeOf, typeInfo, hi', hsz, (by omega : (lo : Int) ≤ (hi : Int)), (by omega : (hi : Int) ≤ (cap : Int)), hne, Addr.add]
theorem I.slFrom {b off len cap lo : Nat} (h : slB P T = some (e, k)) (h1 : lo ≤ len) (h2 : len ≤ cap) (h3 : lo < cap) : (Instr.sliceAt T (.slice (some ⟨b, off, none⟩) len cap) (some (.int .i64 (lo : Int))) none none).run P w = .ok (.slice (some ⟨b, off + lo * k, none⟩) (len - lo) (cap - lo)) w := by
  refine slAt_sl h ?_
  obtain ⟨hu, hs⟩ := sl_of h
  obtain ⟨i, hi', hsz⟩ : ∃ i, P.info? e = some i ∧ i.size = k := by
    unfold szB at hs
    cases hq : P.info? e with
    | none => rw [hq] at hs; cases hs
    | some i => rw [hq] at hs; exact ⟨i, rfl, by simpa using hs⟩
  have hne : ¬ cap = lo := by omega
  simp [Instr.slice, run_underlying hu, Instr.sliceBounds, run_sliceBound, sizeOf, typeInfo, hi', hsz, (by omega : (lo : Int) ≤ (len : Int)), hne, Addr.add]
theorem I.slTo {a : Option Addr} {len cap hi : Nat} (h : slB P T = some (e, k)) (h2 : hi ≤ cap) : (Instr.sliceAt T (.slice a len cap) none (some (.int .i64 (hi : Int))) none).run P w = .ok (.slice a hi cap) w := by
  refine slAt_sl h ?_
  obtain ⟨hu, hs⟩ := sl_of h
  obtain ⟨i, hi', hsz⟩ : ∃ i, P.info? e = some i ∧ i.size = k := by
    unfold szB at hs
    cases hq : P.info? e with
    | none => rw [hq] at hs; cases hs
    | some i => rw [hq] at hs; exact ⟨i, rfl, by simpa using hs⟩
  simp [Instr.slice, run_underlying hu, Instr.sliceBounds, run_sliceBound, sizeOf, typeInfo, hi', hsz, (by omega : (hi : Int) ≤ (cap : Int))]
  cases a <;> simp [Addr.add]
theorem I.slSc {b off len cap lo hi : Nat} (hlit : Nat.ble lo 18446744073709551616 = true) (hlit2 : Nat.ble hi 18446744073709551616 = true) (h : slB P T = some (e, k)) (h1 : (@OfNat.ofNat Nat lo (instOfNatNat lo)) ≤ @OfNat.ofNat Nat hi (instOfNatNat hi)) (h2 : (@OfNat.ofNat Nat hi (instOfNatNat hi)) ≤ cap) (h3 : (@OfNat.ofNat Nat lo (instOfNatNat lo)) < cap) : (Instr.sliceAt T (.slice (some ⟨b, off, none⟩) len cap) (some (.int .i64 (@OfNat.ofNat Int lo instOfNat))) (some (.int .i64 (@OfNat.ofNat Int hi instOfNat))) none).run P w = .ok (.slice (some ⟨b, off + (@OfNat.ofNat Nat lo (instOfNatNat lo)) * k, none⟩) ((@OfNat.ofNat Nat hi (instOfNatNat hi)) - (@OfNat.ofNat Nat lo (instOfNatNat lo))) (cap - (@OfNat.ofNat Nat lo (instOfNatNat lo)))) w := I.slS h h1 h2 h3
theorem I.slToc {a : Option Addr} {len cap hi : Nat} (hlit : Nat.ble hi 18446744073709551616 = true) (h : slB P T = some (e, k)) (h2 : (@OfNat.ofNat Nat hi (instOfNatNat hi)) ≤ cap) : (Instr.sliceAt T (.slice a len cap) none (some (.int .i64 (@OfNat.ofNat Int hi instOfNat))) none).run P w = .ok (.slice a (@OfNat.ofNat Nat hi (instOfNatNat hi)) cap) w := I.slTo h h2
theorem R.minE {o : Oper} {n : Nat} {D : List Deferred} {M : Slots} {xs : Array Operand} {ts : Array TypeId} {k : IntKind} {y z x : Int} (ho : o.op = .call { callee := .builtin .min, args := xs, argTypes := ts }) (hx : evsM M xs.toList = some [.int k y, .int k z]) (e : (if z < y then z else y) = x) : Runs P n D M o w (.value (.int k x)) w := by
  subst e
  exact R.min ho hx
theorem cell_up {w' : World} {b o : Nat} {v : Value} (h : w.cell? ⟨b, o, none⟩ = some v) (hb : Below w.heap.size w w') : w'.cell? ⟨b, o, none⟩ = some v :=
  (World.cell?_of_block (hb.block b (World.block_lt_of_cell? w _ h))).trans h
theorem cell_gr {w' : World} {b o : Nat} {r : Nat} {v : Value} (h : w.cell? ⟨b, o, none⟩ = some v) (hg : w.grownBy w' (some r)) (hne : b ≠ r) : w'.cell? ⟨b, o, none⟩ = some v :=
  hg.cell h (by simpa using hne)
theorem cell_kept {K : Nat → Prop} {w' : World} {b o : Nat} {v : Value} (h : w.cell? ⟨b, o, none⟩ = some v) (hk : Kept K w w') (hb : K b) : w'.cell? ⟨b, o, none⟩ = some v := (World.cell?_of_block (hk.block b hb)).trans h
/-- A part of what a slice reads as. -/
theorem Reads.part {b off len cap lo hi : Nat} {xs : List Value} (h : Reads w (.slice (some ⟨b, off, none⟩) len cap) xs) (h1 : lo ≤ hi) (h2 : hi ≤ len) (h3 : hi - lo ≤ cap - lo) : Reads w (.slice (some ⟨b, off + lo * 1, none⟩) (hi - lo) (cap - lo)) ((xs.drop lo).take (hi - lo)) := by
  obtain ⟨a, c, e, hc, hr⟩ := h
  simp only [Value.slice.injEq] at e
  obtain ⟨rfl, rfl, rfl⟩ := e
  have hl : ((xs.drop lo).take (hi - lo)).length = hi - lo := by simp; omega
  refine ⟨_, _, by rw [hl], by rw [hl]; exact h3, fun hne => ?_⟩
  have hx : xs ≠ [] := by rintro rfl; simp at hne
  obtain ⟨b', off', ea, hb, hcell⟩ := hr hx
  simp only [Option.some.injEq, Addr.mk.injEq] at ea
  obtain ⟨rfl, rfl, _⟩ := ea
  refine ⟨b, off + lo * 1, rfl, hb, fun j hj => ?_⟩
  rw [hl] at hj
  have := hcell (lo + j) (by omega)
  rw [Nat.mul_one, Nat.add_assoc, this, List.getElem?_take, if_pos hj, List.getElem?_drop]
theorem SR.storeN {ops : Array Oper} {ok : World → Prop} {i : Nat} {K : Slots → World → Prop} {n : Nat} {D : List Deferred} {M : Slots} {o : Oper} {x y : Operand} {t : TypeId} {g off e : Nat} {xs vs : List Value} (hi : ops[i]? = some o) (ho : o.op = .store t x y) (hx : evM M x = some (.pointer (some ⟨g, off, none⟩))) (hy : evM M y = some (.agg vs.toArray)) (hz : szB P t = some vs.length) (hr : RowL w g e xs) (hl : off + vs.length ≤ xs.length) (h1 : ∀ u ∈ vs, u.oneCell' = true) (hd : o.dst = none) (hg : wantB ops M o.guard = some true)
    (c : ∀ w1, RowL w1 g e (xs.take off ++ vs ++ xs.drop (off + vs.length)) → w.grownBy w1 (some g) → w1.heap.size = w.heap.size → ok w1 ∧ K M w1) : SR P ops ok i K n D M w := SR.mk fun K' hK a F => by
  obtain ⟨w', hrun, hrow, hgr, hsz⟩ := I.stN hz hr hl h1
  have h := c w' hrow hgr hsz
  unfold stepR
  simp only [hi]
  rw [if_pos (F.want hg)]
  refine .inr (.inl ⟨_, R.store ho hx hy hrun a F, h.1, ?_⟩)
  rw [hd]
  exact hK _ _ h.2 _ F
end
end Go.Proofs.Ytajfffoaebjnlaa
