/- Arrays of numbers, in a row and as values. Over any program. -/
import Derived.Test.YtajfffoaebjnlaaFreeZ
import Derived.Test.YtajfffoaebjnlaaUp
import Derived.Test.YtajfffoaebjnlaaAuto
import Derived.Test.YtajfffoaebjnlaaSl
import Derived.ChangeKeysEq
namespace Go.Proofs.Ytajfffoaebjnlaa
set_option linter.unusedVariables false
set_option linter.unusedSimpArgs false
open Go.RowKit Go.Shelf
/-- Whole numbers of a kind. -/
abbrev intsZ (k : IntKind) (ns : List Int) : List Value := ns.map fun z : Int => Value.int k z
section
variable {P : Program} {w w' : World} {t : TypeId} {o : Oper} {x y : Operand} {n : Nat} {D : List Deferred} {M : Slots} {r : Option Nat} {ops : Array Oper} {Q : Exit → Act → World → Prop} {rest : List Oper}
def avB (P : Program) (t : TypeId) (n : Nat) : Bool := match P.underlying t with
  | some (.array m e) => m == n && (P.plainKey e && (szB P e == some 1))
  | _ => false
theorem I.ixV {i : Nat} {cs : Array Value} {v : Value} (h : avB P t n = true) (hi : i < n) (hv : cs[i]? = some v) : (Instr.index t (.agg cs) (.int .i64 (i : Int))).run P w = .ok v w := by
  unfold avB at h
  cases hu : P.underlying t with
  | none => rw [hu] at h; cases h
  | some u =>
    rw [hu] at h
    cases u <;> try (cases h; done)
    rename_i m e
    simp only [Bool.and_eq_true, beq_iff_eq] at h
    obtain ⟨rfl, he, hz⟩ := h
    have h1 : (i : Int) < (m : Int) := by omega
    have := run_part_plain (P := P) w he hv
    simp [Instr.index, asIntOf, run_underlying hu, h1, size_of_sz hz, this]
    exact fun hh => absurd hi (by omega)
/-- An element of an array's value. -/
theorem R.ixZ {i m : Nat} {k : IntKind} {ns : List Int} {z : Int} (ho : o.op = .index t x y) (hx : evM M x = some (.agg (intsZ k ns).toArray)) (hy : evM M y = some (.int .i64 (i : Int))) (h : avB P t m = true) (hl : ns.length = m) (hv : ns[i]? = some z) : Runs P n D M o w (.value (.int k z)) w :=
  R.indexV ho hx hy (I.ixV h (by have := (List.getElem?_eq_some_iff.1 hv).1; omega) (by simp [hv]))
theorem R.ixVc {i m : Nat} {cs : Array Value} {v : Value} (hlit : Nat.ble i 18446744073709551616 = true) (ho : o.op = .index t x y) (hx : evM M x = some (.agg cs)) (hy : evM M y = some (.int .i64 (@OfNat.ofNat Int i instOfNat))) (hm : arB P t = some (m, 1)) (h : avB P t m = true) (hi : Nat.blt i m = true) (hv : cs[i]? = some v) : Runs P n D M o w (.value v) w :=
  R.indexV ho hx hy (I.ixV (i := i) h (by simpa [Nat.blt_eq] using hi) hv)
/-- All of an array's row. -/
theorem R.loadZ {g e m : Nat} {k : IntKind} {ns : List Int} (ho : o.op = .load t x) (hx : evM M x = some (.pointer (some ⟨g, 0, none⟩))) (hr : RowL w g e (intsZ k ns)) (ha : aggB P t = true) (hz : szB P t = some m) (hl : ns.length = m) : Runs P n D M o w (.value (.agg (intsZ k ns).toArray)) w :=
  R.load ho hx (I.ldNc (RowL.cells0 hr) ha (by rw [hz, List.length_map, hl]))
/-- A store into an array's row. -/
theorem LL.storeZ {g off e i : Nat} {k : IntKind} {ns : List Int} {z : Int} (ho : o.op = .store t x y) (hx : evM M x = some (.pointer (some ⟨g, off, none⟩))) (hoff : off = i) (hy : evM M y = some (.int k z)) (hz : szB P t = some 1) (hr : RowL w g e (intsZ k ns)) (hi : i < ns.length) (hd : o.dst = none) (hg : wantB ops M o.guard = some true)
    (kk : ∀ w', RowL w' g e (intsZ k (ns.set i z)) → w.grownBy w' (some g) → w'.heap.size = w.heap.size → LL r P ops Q n D M rest w') : LL r P ops Q n D M (o :: rest) w := by
  subst hoff
  refine LL.store ho hx hy hz hr (by rw [List.length_map]; exact hi) rfl rfl hd hg ?_
  intro w' r' g' z'
  refine kk w' ?_ g' z'
  rw [show intsZ k (ns.set off z) = (intsZ k ns).set off (.int k z) from List.map_set ..]
  exact r'
/-- A store of a whole array. -/
theorem LL.storeAZ {g e m : Nat} {k : IntKind} {ns : List Int} {xs : List Value} (ho : o.op = .store t x y) (hx : evM M x = some (.pointer (some ⟨g, 0, none⟩))) (hy : evM M y = some (.agg (intsZ k ns).toArray)) (hz : szB P t = some m) (hl : ns.length = m) (hr : RowL w g e xs) (hxl : xs.length = m) (hd : o.dst = none) (hg : wantB ops M o.guard = some true)
    (kk : ∀ w', RowL w' g e (intsZ k ns) → w.grownBy w' (some g) → w'.heap.size = w.heap.size → LL r P ops Q n D M rest w') : LL r P ops Q n D M (o :: rest) w := by
  refine LL.storeN (vs := intsZ k ns) ho hx hy (by rw [hz, List.length_map, hl]) hr (by rw [List.length_map]; omega) (fun u hu => by simp only [List.mem_map] at hu; obtain ⟨z, _, rfl⟩ := hu; rfl) hd hg ?_
  intro w' r' g' z'
  refine kk w' ?_ g' z'
  have e1 : xs.take 0 ++ (intsZ k ns) ++ xs.drop (0 + (intsZ k ns).length) = intsZ k ns := by
    rw [List.drop_of_length_le (by rw [List.length_map]; omega)]
    simp
  first
    | (rw [← e1]; exact r')
    | (have := r'; simp only [List.take_zero, List.nil_append, Nat.zero_add, List.length_map] at this; rw [List.drop_of_length_le (by omega), List.append_nil] at this; exact this)
theorem ZR.storeZ {ok : World → Prop} {j : Nat} {K : Slots → World → Prop} {g off e i : Nat} {k : IntKind} {ns : List Int} {z : Int} (hj : ops[j]? = some o) (ho : o.op = .store t x y) (hx : evM M x = some (.pointer (some ⟨g, off, none⟩))) (hoff : off = i) (hy : evM M y = some (.int k z)) (hz : szB P t = some 1) (hr : RowL w g e (intsZ k ns)) (hi : i < ns.length) (hd : o.dst = none) (hg : wantB ops M o.guard = some true)
    (kk : ∀ w', RowL w' g e (intsZ k (ns.set i z)) → w.grownBy w' (some g) → w'.heap.size = w.heap.size → ok w' ∧ K M w') : SR P ops ok j K n D M w := by
  subst hoff
  refine ZR.store hj ho hx hy hz hr (by rw [List.length_map]; exact hi) rfl rfl hd hg ?_
  intro w' r' g' z'
  refine kk w' ?_ g' z'
  rw [show intsZ k (ns.set off z) = (intsZ k ns).set off (.int k z) from List.map_set ..]
  exact r'
theorem ZR.storeAZ {ok : World → Prop} {j : Nat} {K : Slots → World → Prop} {g e m : Nat} {k : IntKind} {ns : List Int} {xs : List Value} (hj : ops[j]? = some o) (ho : o.op = .store t x y) (hx : evM M x = some (.pointer (some ⟨g, 0, none⟩))) (hy : evM M y = some (.agg (intsZ k ns).toArray)) (hz : szB P t = some m) (hl : ns.length = m) (hr : RowL w g e xs) (hxl : xs.length = m) (hd : o.dst = none) (hg : wantB ops M o.guard = some true)
    (kk : ∀ w', RowL w' g e (intsZ k ns) → w.grownBy w' (some g) → w'.heap.size = w.heap.size → ok w' ∧ K M w') : SR P ops ok j K n D M w := by
  refine ZR.storeN (vs := intsZ k ns) hj ho hx hy (by rw [hz, List.length_map, hl]) hr (by rw [List.length_map]; omega) (fun u hu => by simp only [List.mem_map] at hu; obtain ⟨z, _, rfl⟩ := hu; rfl) hd hg ?_
  intro w' r' g' z'
  refine kk w' ?_ g' z'
  have e1 : xs.take 0 ++ (intsZ k ns) ++ xs.drop (0 + (intsZ k ns).length) = intsZ k ns := by
    rw [List.drop_of_length_le (by rw [List.length_map]; omega)]
    simp
  rw [← e1]
  exact r'
theorem lvZ {g e m : Nat} {k : IntKind} {ns : List Int} (hr : RowL w g e (intsZ k ns)) (ha : aggB P t = true) (hz : szB P t = some m) (hl : ns.length = m) : (loadVar t ⟨g, 0, none⟩).run P w = .ok (.agg (intsZ k ns).toArray) w :=
  lvNc (RowL.cells0 hr) ha (by rw [hz, List.length_map, hl])
/-- A piece of an array as a slice. -/
theorem I.slAP {m k b off lo hi : Nat} (h : arB P t = some (m, k)) (h1 : lo ≤ hi) (h2 : hi ≤ m) : ∃ a, (∀ w : World, (Instr.sliceAt t (.pointer (some ⟨b, off, none⟩)) (some (.int .i64 (lo : Int))) (some (.int .i64 (hi : Int))) none).run P w = .ok (.slice (some a) (hi - lo) (m - lo)) w) ∧ (lo < hi → a = ⟨b, off + lo * k, none⟩) := by
  obtain ⟨e, hu, hz⟩ := ar_of h
  have h3 : (hi : Int) ≤ (m : Int) := by omega
  have h4 : (lo : Int) ≤ (hi : Int) := by omega
  refine ⟨if m = lo then ⟨b, off, none⟩ else (⟨b, off, none⟩ : Addr).add (lo * k), fun w => ?_, fun hlt => ?_⟩
  · unfold Instr.sliceAt Instr.sureAddr Instr.sliceBounds
    simp [run_underlying hu, run_sliceBound, size_of_sz hz, h3, h4]
  · rw [if_neg (by omega), add_plain]
end
end Go.Proofs.Ytajfffoaebjnlaa
