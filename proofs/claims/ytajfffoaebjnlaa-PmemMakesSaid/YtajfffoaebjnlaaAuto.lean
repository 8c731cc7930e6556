/- What the tool that writes walks (tools/WDev.lean) takes: comparisons that part the walk, regions that draw their order over a world that is named anew, loads of structs. -/
import Derived.Test.YtajfffoaebjnlaaKept
import Derived.Test.YtajfffoaebjnlaaUp
namespace Go.Proofs.Ytajfffoaebjnlaa
set_option linter.unusedVariables false
set_option linter.unusedSimpArgs false
open Go.RowKit Go.Shelf
section
variable {P : Program} {ops : Array Oper} {w w' : World} {o : Oper} {rest : List Oper} {n : Nat} {D : List Deferred} {M : Slots} {v : Value} {r : Option Nat} {Q : Exit → Act → World → Prop}
theorem LL.vsplit {p : Prop} [Decidable p] (ht : p → Runs P n D M o w (.value (.bool true)) w) (hf : ¬p → Runs P n D M o w (.value (.bool false)) w) (hd : dstB n o.dst = true) (hdf : dfB o.op = false) (hg : wantB ops M o.guard = some true)
    (k1 : p → LL r P ops Q n D (putM M o.dst (.bool true)) rest w) (k2 : ¬p → LL r P ops Q n D (putM M o.dst (.bool false)) rest w) : LL r P ops Q n D M (o :: rest) w := by
  by_cases h : p
  · exact LL.val (ht h) hd hdf hg (k1 h)
  · exact LL.val (hf h) hd hdf hg (k2 h)
theorem SS.vsplit {R : Act → Prop} {p : Prop} [Decidable p] (ht : p → Runs P n D M o w (.value (.bool true)) w) (hf : ¬p → Runs P n D M o w (.value (.bool false)) w) (hd : dstB n o.dst = true) (hg : wantB ops M o.guard = some true)
    (k1 : p → SS P ops w R n D (putM M o.dst (.bool true)) rest) (k2 : ¬p → SS P ops w R n D (putM M o.dst (.bool false)) rest) : SS P ops w R n D M (o :: rest) := by
  by_cases h : p
  · exact SS.val (ht h) hd hg (k1 h)
  · exact SS.val (hf h) hd hg (k2 h)
/-- A region that draws its order and leaves memory alone; the world behind the draw is any one like it. -/
theorem CC.quietB {id : Nat} {l : List Oper} (hm : P.follows .mixedOrders = true) (hB : (Region.lexB .any l.toArray && l.all fun o => !dfB o.op) = true)
    (h : ∀ w1, Below w.heap.size w w1 → w1.heap.size = w.heap.size → SS P l.toArray w1 (fun a => Q .normal a w1) n D M l) : CC r P Q n D M (.region id l.toArray true) w :=
  CC.quiet hm hB (h _ below_drew rfl)
theorem CC.tailB {id : Nat} {l : List Oper} (m : Nat) (hm : P.follows .mixedOrders = true) (hB : (Region.lexTailB .any l.toArray m && l.all fun o => !dfB o.op) = true)
    (h : ∀ w1, Below w.heap.size w w1 → w1.heap.size = w.heap.size → SS P l.toArray w1 (fun a => wpListIn (Wr r) 3 P l.toArray Q (l.drop m) a w1) n D M (l.take m)) : CC r P Q n D M (.region id l.toArray true) w :=
  CC.tail m hm hB (h _ below_drew rfl)
theorem I.ldNc {t : TypeId} {p : Addr} {vs : List Value} (hc : Cells w p vs) (hT : aggB P t = true) (hz : szB P t = some vs.length) : (Instr.loadAt t (.pointer (some p))).run P w = .ok (.agg vs.toArray) w := I.ldN hT hz hc
/-! Calls that tell a truth value. -/
theorem LL.callDT {f : FuncId} {args : Array Value} {p : Prop} [Decidable p] (hr : Runs P n D M o w (.enter f args) w) (hd : dstB n o.dst = true) (hdf : dfB o.op = false) (hg : wantB ops M o.guard = some true) (hc : Calls P f args w fun e w' => e = .returned (.bool (decide p)) ∧ w = w') (h : p)
    (k : LL r P ops Q n D (putM M o.dst (.bool true)) rest w) : LL r P ops Q n D M (o :: rest) w :=
  LL.call hr hd hdf hg hc fun e w' ⟨he, hw⟩ => ⟨_, he, by rw [decide_eq_true h, ← hw]; exact k⟩
theorem LL.callDF {f : FuncId} {args : Array Value} {p : Prop} [Decidable p] (hr : Runs P n D M o w (.enter f args) w) (hd : dstB n o.dst = true) (hdf : dfB o.op = false) (hg : wantB ops M o.guard = some true) (hc : Calls P f args w fun e w' => e = .returned (.bool (decide p)) ∧ w = w') (h : ¬p)
    (k : LL r P ops Q n D (putM M o.dst (.bool false)) rest w) : LL r P ops Q n D M (o :: rest) w :=
  LL.call hr hd hdf hg hc fun e w' ⟨he, hw⟩ => ⟨_, he, by rw [decide_eq_false h, ← hw]; exact k⟩
theorem LL.callD {f : FuncId} {args : Array Value} {p : Prop} [Decidable p] (hr : Runs P n D M o w (.enter f args) w) (hd : dstB n o.dst = true) (hdf : dfB o.op = false) (hg : wantB ops M o.guard = some true) (hc : Calls P f args w fun e w' => e = .returned (.bool (decide p)) ∧ w = w')
    (k1 : p → LL r P ops Q n D (putM M o.dst (.bool true)) rest w) (k2 : ¬p → LL r P ops Q n D (putM M o.dst (.bool false)) rest w) : LL r P ops Q n D M (o :: rest) w := by
  by_cases h : p
  · exact LL.callDT hr hd hdf hg hc h (k1 h)
  · exact LL.callDF hr hd hdf hg hc h (k2 h)
/-- The same, where the call makes memory. -/
theorem LL.callBT {f : FuncId} {args : Array Value} {p : Prop} [Decidable p] (hr : Runs P n D M o w (.enter f args) w) (hd : dstB n o.dst = true) (hdf : dfB o.op = false) (hg : wantB ops M o.guard = some true) (hc : Calls P f args w fun e w' => e = .returned (.bool (decide p)) ∧ Below w.heap.size w w') (h : p)
    (k : ∀ w', Below w.heap.size w w' → LL r P ops Q n D (putM M o.dst (.bool true)) rest w') : LL r P ops Q n D M (o :: rest) w :=
  LL.call hr hd hdf hg hc fun e w' ⟨he, hw⟩ => ⟨_, he, by rw [decide_eq_true h]; exact k w' hw⟩
theorem LL.callBF {f : FuncId} {args : Array Value} {p : Prop} [Decidable p] (hr : Runs P n D M o w (.enter f args) w) (hd : dstB n o.dst = true) (hdf : dfB o.op = false) (hg : wantB ops M o.guard = some true) (hc : Calls P f args w fun e w' => e = .returned (.bool (decide p)) ∧ Below w.heap.size w w') (h : ¬p)
    (k : ∀ w', Below w.heap.size w w' → LL r P ops Q n D (putM M o.dst (.bool false)) rest w') : LL r P ops Q n D M (o :: rest) w :=
  LL.call hr hd hdf hg hc fun e w' ⟨he, hw⟩ => ⟨_, he, by rw [decide_eq_false h]; exact k w' hw⟩
theorem LL.callB {f : FuncId} {args : Array Value} {p : Prop} [Decidable p] (hr : Runs P n D M o w (.enter f args) w) (hd : dstB n o.dst = true) (hdf : dfB o.op = false) (hg : wantB ops M o.guard = some true) (hc : Calls P f args w fun e w' => e = .returned (.bool (decide p)) ∧ Below w.heap.size w w')
    (k1 : p → ∀ w', Below w.heap.size w w' → LL r P ops Q n D (putM M o.dst (.bool true)) rest w') (k2 : ¬p → ∀ w', Below w.heap.size w w' → LL r P ops Q n D (putM M o.dst (.bool false)) rest w') : LL r P ops Q n D M (o :: rest) w := by
  by_cases h : p
  · exact LL.callBT hr hd hdf hg hc h (k1 h)
  · exact LL.callBF hr hd hdf hg hc h (k2 h)
theorem SS.callDT {R : Act → Prop} {f : FuncId} {args : Array Value} {p : Prop} [Decidable p] (hr : Runs P n D M o w (.enter f args) w) (hd : dstB n o.dst = true) (hg : wantB ops M o.guard = some true) (hc : Calls P f args w fun e w' => e = .returned (.bool (decide p)) ∧ w = w') (h : p)
    (k : SS P ops w R n D (putM M o.dst (.bool true)) rest) : SS P ops w R n D M (o :: rest) := by
  rw [decide_eq_true h] at hc
  exact SS.call hr hd hg hc k
theorem SS.callDF {R : Act → Prop} {f : FuncId} {args : Array Value} {p : Prop} [Decidable p] (hr : Runs P n D M o w (.enter f args) w) (hd : dstB n o.dst = true) (hg : wantB ops M o.guard = some true) (hc : Calls P f args w fun e w' => e = .returned (.bool (decide p)) ∧ w = w') (h : ¬p)
    (k : SS P ops w R n D (putM M o.dst (.bool false)) rest) : SS P ops w R n D M (o :: rest) := by
  rw [decide_eq_false h] at hc
  exact SS.call hr hd hg hc k
theorem SS.callD {R : Act → Prop} {f : FuncId} {args : Array Value} {p : Prop} [Decidable p] (hr : Runs P n D M o w (.enter f args) w) (hd : dstB n o.dst = true) (hg : wantB ops M o.guard = some true) (hc : Calls P f args w fun e w' => e = .returned (.bool (decide p)) ∧ w = w')
    (k1 : p → SS P ops w R n D (putM M o.dst (.bool true)) rest) (k2 : ¬p → SS P ops w R n D (putM M o.dst (.bool false)) rest) : SS P ops w R n D M (o :: rest) := by
  by_cases h : p
  · exact SS.callDT hr hd hg hc h (k1 h)
  · exact SS.callDF hr hd hg hc h (k2 h)
theorem R.addIz {x y : Operand} {t u : TypeId} {a b z : Int} (ho : o.op = .binOp .add t x y u) (hx : evM M x = some (.int .i64 a)) (hy : evM M y = some (.int .i64 b)) (e : a + b = z) (h : -9223372036854775808 ≤ z ∧ z ≤ 9223372036854775807) : Runs P n D M o w (.value (.int .i64 z)) w := by subst e; exact R.addI ho hx hy h
theorem R.subIz {x y : Operand} {t u : TypeId} {a b z : Int} (ho : o.op = .binOp .sub t x y u) (hx : evM M x = some (.int .i64 a)) (hy : evM M y = some (.int .i64 b)) (e : a - b = z) (h : -9223372036854775808 ≤ z ∧ z ≤ 9223372036854775807) : Runs P n D M o w (.value (.int .i64 z)) w := by subst e; exact R.subI ho hx hy h
theorem R.mulIz {x y : Operand} {t u : TypeId} {a b z : Int} (ho : o.op = .binOp .mul t x y u) (hx : evM M x = some (.int .i64 a)) (hy : evM M y = some (.int .i64 b)) (e : a * b = z) (h : -9223372036854775808 ≤ z ∧ z ≤ 9223372036854775807) : Runs P n D M o w (.value (.int .i64 z)) w := by subst e; exact R.mulI ho hx hy h
theorem R.remIc {x y : Operand} {t u : TypeId} {a : Int} {b : Nat} (hlit : Nat.ble b 18446744073709551616 = true) (ho : o.op = .binOp .rem t x y u) (hx : evM M x = some (.int .i64 a)) (hy : evM M y = some (.int .i64 (@OfNat.ofNat Int b instOfNat))) (h0 : 0 ≤ a) (h : 0 < (@OfNat.ofNat Nat b (instOfNatNat b))) : Runs P n D M o w (.value (.int .i64 (a % (@OfNat.ofNat Int b instOfNat)))) w := by
  obtain ⟨m, rfl⟩ := Int.eq_ofNat_of_zero_le h0
  exact R.remNc hlit ho hx hy h
theorem R.quoIc {x y : Operand} {t u : TypeId} {a : Int} {b : Nat} (hlit : Nat.ble b 18446744073709551616 = true) (ho : o.op = .binOp .quo t x y u) (hx : evM M x = some (.int .i64 a)) (hy : evM M y = some (.int .i64 (@OfNat.ofNat Int b instOfNat))) (h0 : 0 ≤ a) (h : 0 < (@OfNat.ofNat Nat b (instOfNatNat b))) (h2 : a ≤ 9223372036854775807) : Runs P n D M o w (.value (.int .i64 (a / (@OfNat.ofNat Int b instOfNat)))) w := by
  obtain ⟨m, rfl⟩ := Int.eq_ofNat_of_zero_le h0
  exact R.quoNc hlit ho hx hy h (by omega)
theorem R.fieldC {t : TypeId} {x : Operand} {i : Nat} {vx : Value} (ho : o.op = .field t x i) (hx : evM M x = some vx) (hr : ∀ w, (Instr.field t vx i).run P w = .ok v w) : Runs P n D M o w (.value v) w := R.fieldV ho hx (hr w)
theorem lvNc {t : TypeId} {p : Addr} {vs : List Value} (hc : Cells w p vs) (hT : aggB P t = true) (hz : szB P t = some vs.length) : (loadVar t p).run P w = .ok (.agg vs.toArray) w := lvN hT hz hc
theorem RowL.cells0 {g e : Nat} {xs : List Value} (h : RowL w g e xs) : Cells w ⟨g, 0, none⟩ xs := h.cells (by simp)
theorem ones_of {vs : List Value} (h : (vs.all fun u => u.oneCell') = true) : ∀ u ∈ vs, u.oneCell' = true := List.all_eq_true.1 h
theorem wrapI {m : Int} (h1 : -9223372036854775808 ≤ m) (h2 : m ≤ 9223372036854775807) : IntKind.i64.wrap m = m := by
  simp [IntKind.wrap, IntKind.bits, IntKind.signed]
  omega
theorem wrapU {m : Int} (h1 : 0 ≤ m) (h2 : m ≤ 18446744073709551615) : IntKind.u64.wrap m = m := by
  simp [IntKind.wrap, IntKind.bits, IntKind.signed]
  omega
theorem wrapB {m : Int} (h1 : 0 ≤ m) (h2 : m ≤ 255) : IntKind.u8.wrap m = m := by
  simp [IntKind.wrap, IntKind.bits, IntKind.signed]
  omega
theorem below_of_size {B : Nat} (h : Below w.heap.size w w') (hb : B ≤ w.heap.size) : Below B w w' := h.mono hb
end
end Go.Proofs.Ytajfffoaebjnlaa
