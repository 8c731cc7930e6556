/- What the statements' walks use: Sc1, Sc2, Sc3, Sc4, SeqO, So1, Fwd. -/
import Derived.Test.YtloflmkolnediaaProg
import Derived.Test.YtloflmkolnediaaMha
import Derived.Test.YtloflmkolnediaaMhb
/- scan: a reader, and what it does with what it is given (gen1.py writes this). -/
namespace Go.Proofs.Ytloflmkolnediaa
set_option linter.unusedVariables false
set_option linter.unusedSimpArgs false
open Go.RowKit Go.Shelf
section
variable {P : Program} {n : Nat} {D : List Deferred} {M : Slots} {w : World} {o : Oper} {x : Operand}
/-- A call of a method value. -/
theorem R.callM {f : FuncId} {xs : Array Operand} {ts : Array TypeId} {vs : List Value} {bd : Array Value} (ho : o.op = .call { callee := .value x, args := xs, argTypes := ts }) (hf : evM M x = some (.func (.func f) bd #[])) (hx : evsM M xs.toList = some vs) (eg : entB P f = true) : Runs P n D M o w (.enter f (bd ++ vs.toArray)) w := fun a F => by
  have hm := evs_mapA F hx
  unfold execOp
  simp only [ho]
  simp only [resolve, F.ev hf, hm, Deferred.ofValue, invoke, Sem.run_bind, Sem.run_pure, Result.andThen_ok]
  simpa using ent_of eg _ _
variable {t u : TypeId} {y : Operand}
theorem equal_fn_nn (h : isFn P t = true) : (Op.equal t .nilFunc .nilFunc).run P w = .ok true w := by
  unfold isFn at h
  cases hu : P.underlying t with
  | none => rw [hu] at h; cases h
  | some d =>
    rw [hu] at h
    cases d <;> try (cases h; done)
    unfold Op.equal Op.maxDepth Op.equalIn
    simp [run_underlying hu]
theorem R.eqFn0 (ho : o.op = .binOp .eql t x y u) (hx : evM M x = some .nilFunc) (hy : evM M y = some .nilFunc) (h : isFn P t = true) : Runs P n D M o w (.value (.bool true)) w :=
  R.bin ho hx hy (by show ((do eqGuard .eql t x y .nilFunc .nilFunc; binOp .eql t .nilFunc .nilFunc) : Sem Value).run P w = .ok (.bool true) w; simp [eqGuard, binOp, equal_fn_nn h])
end
set_option maxRecDepth 100000
set_option maxHeartbeats 4000000
theorem turn_0 (g : Nat) {c0 c1 c2 c3 c4 c5 c6 c7 c8 c9 c10 c11 : Value} {w : World} (h : RowL w g 56 [c0, c1, c2, c3, c4, c5, c6, c7, c8, c9, c10, c11]) : Calls Try.prog 40 #[.pointer (some ⟨g, 0, none⟩), .int .i64 0] w fun e w' => e = .returned (.tuple #[]) ∧ RowL w' g 56 [c0, c1, c2, c3, c4, c5, c6, c7, c8, c9, .int .i64 0, .func (.func 56) #[.pointer (some ⟨g, 0, none⟩)] #[]] ∧ Kept (fun j => j < w.heap.size ∧ j ≠ g) w w' := by
  have gw := Gw.refl g w
  refine X.fn Try.func40 rfl (n := 72) rfl rfl ?_
  refine CC.seq ?_
  refine CC.region ?_
  refine LL.val (R.move rfl rfl) rfl rfl rfl ?_
  refine LL.val (R.move rfl rfl) rfl rfl rfl ?_
  refine LL.val (R.nil rfl rfl) rfl rfl rfl ?_
  refine LL.val (R.field rfl rfl (I.fld rfl)) rfl rfl rfl ?_
  refine LL.store rfl rfl rfl rfl h (by exact Nat.le_of_ble_eq_true rfl) rfl rfl rfl rfl ?_
  intro W2 r3 b1 z4
  have hlb1 := h.lt
  replace r3 : RowL W2 _ 56 [c0, c1, c2, c3, c4, c5, c6, c7, c8, c9, Value.int IntKind.i64 0, c11] := r3
  clear h
  replace gw := gw.gr b1 (by omega)
  have h := r3
  clear r3
  refine LL.nilS ?_
  refine CC.seq ?_
  refine CC.region ?_
  refine LL.val (R.move rfl rfl) rfl rfl rfl ?_
  refine LL.nilS ?_
  refine CC.block ?_
  refine CC.seq ?_
  refine CC.region ?_
  refine LL.val (R.eqT rfl rfl rfl (by omega)) rfl rfl rfl ?_
  refine LL.val (R.assign rfl rfl) rfl rfl rfl ?_
  refine LL.nilS ?_
  refine CC.yes rfl ?_
  refine CC.region ?_
  refine LL.val (R.move rfl rfl) rfl rfl rfl ?_
  refine LL.val (R.move rfl rfl) rfl rfl rfl ?_
  refine LL.val (R.func rfl rfl rfl) rfl rfl rfl ?_
  refine LL.val (R.nil rfl rfl) rfl rfl rfl ?_
  refine LL.val (R.field rfl rfl (I.fld rfl)) rfl rfl rfl ?_
  refine LL.store rfl rfl rfl rfl h (by exact Nat.le_of_ble_eq_true rfl) rfl rfl rfl rfl ?_
  intro W6 r7 b5 z8
  have hlb5 := h.lt
  replace r7 : RowL W6 _ 56 [c0, c1, c2, c3, c4, c5, c6, c7, c8, c9, Value.int IntKind.i64 0, Value.func (Fn.func 56) #[Value.pointer (some { block := g, off := 0 })] #[]] := r7
  clear h
  replace gw := gw.gr b5 (by omega)
  have h := r7
  clear r7
  refine LL.nil ?_
  refine EE.inN ?_
  refine EE.end _ rfl rfl ?_
  exact ⟨rfl, h, gw⟩
theorem turn_1 (g : Nat) {c0 c1 c2 c3 c4 c5 c6 c7 c8 c9 c10 c11 : Value} {w : World} (h : RowL w g 56 [c0, c1, c2, c3, c4, c5, c6, c7, c8, c9, c10, c11]) : Calls Try.prog 40 #[.pointer (some ⟨g, 0, none⟩), .int .i64 1] w fun e w' => e = .returned (.tuple #[]) ∧ RowL w' g 56 [c0, c1, c2, c3, c4, c5, c6, c7, c8, c9, .int .i64 1, .func (.func 57) #[.pointer (some ⟨g, 0, none⟩)] #[]] ∧ Kept (fun j => j < w.heap.size ∧ j ≠ g) w w' := by
  have gw := Gw.refl g w
  refine X.fn Try.func40 rfl (n := 72) rfl rfl ?_
  refine CC.seq ?_
  refine CC.region ?_
  refine LL.val (R.move rfl rfl) rfl rfl rfl ?_
  refine LL.val (R.move rfl rfl) rfl rfl rfl ?_
  refine LL.val (R.nil rfl rfl) rfl rfl rfl ?_
  refine LL.val (R.field rfl rfl (I.fld rfl)) rfl rfl rfl ?_
  refine LL.store rfl rfl rfl rfl h (by exact Nat.le_of_ble_eq_true rfl) rfl rfl rfl rfl ?_
  intro W2 r3 b1 z4
  have hlb1 := h.lt
  replace r3 : RowL W2 _ 56 [c0, c1, c2, c3, c4, c5, c6, c7, c8, c9, Value.int IntKind.i64 1, c11] := r3
  clear h
  replace gw := gw.gr b1 (by omega)
  have h := r3
  clear r3
  refine LL.nilS ?_
  refine CC.seq ?_
  refine CC.region ?_
  refine LL.val (R.move rfl rfl) rfl rfl rfl ?_
  refine LL.nilS ?_
  refine CC.block ?_
  refine CC.seq ?_
  refine CC.region ?_
  refine LL.val (R.eqF rfl rfl rfl (by omega)) rfl rfl rfl ?_
  refine LL.val (R.assign rfl rfl) rfl rfl rfl ?_
  refine LL.nilS ?_
  refine CC.no rfl ?_
  refine CC.seq ?_
  refine CC.region ?_
  refine LL.val (R.eqT rfl rfl rfl (by omega)) rfl rfl rfl ?_
  refine LL.val (R.assign rfl rfl) rfl rfl rfl ?_
  refine LL.nilS ?_
  refine CC.yes rfl ?_
  refine CC.region ?_
  refine LL.val (R.move rfl rfl) rfl rfl rfl ?_
  refine LL.val (R.move rfl rfl) rfl rfl rfl ?_
  refine LL.val (R.func rfl rfl rfl) rfl rfl rfl ?_
  refine LL.val (R.nil rfl rfl) rfl rfl rfl ?_
  refine LL.val (R.field rfl rfl (I.fld rfl)) rfl rfl rfl ?_
  refine LL.store rfl rfl rfl rfl h (by exact Nat.le_of_ble_eq_true rfl) rfl rfl rfl rfl ?_
  intro W6 r7 b5 z8
  have hlb5 := h.lt
  replace r7 : RowL W6 _ 56 [c0, c1, c2, c3, c4, c5, c6, c7, c8, c9, Value.int IntKind.i64 1, Value.func (Fn.func 57) #[Value.pointer (some { block := g, off := 0 })] #[]] := r7
  clear h
  replace gw := gw.gr b5 (by omega)
  have h := r7
  clear r7
  refine LL.nil ?_
  refine EE.inN ?_
  refine EE.end _ rfl rfl ?_
  exact ⟨rfl, h, gw⟩
theorem turn_2 (g : Nat) {c0 c1 c2 c3 c4 c5 c6 c7 c8 c9 c10 c11 : Value} {w : World} (h : RowL w g 56 [c0, c1, c2, c3, c4, c5, c6, c7, c8, c9, c10, c11]) : Calls Try.prog 40 #[.pointer (some ⟨g, 0, none⟩), .int .i64 2] w fun e w' => e = .returned (.tuple #[]) ∧ RowL w' g 56 [c0, c1, c2, c3, c4, c5, c6, c7, c8, c9, .int .i64 2, .func (.func 58) #[.pointer (some ⟨g, 0, none⟩)] #[]] ∧ Kept (fun j => j < w.heap.size ∧ j ≠ g) w w' := by
  have gw := Gw.refl g w
  refine X.fn Try.func40 rfl (n := 72) rfl rfl ?_
  refine CC.seq ?_
  refine CC.region ?_
  refine LL.val (R.move rfl rfl) rfl rfl rfl ?_
  refine LL.val (R.move rfl rfl) rfl rfl rfl ?_
  refine LL.val (R.nil rfl rfl) rfl rfl rfl ?_
  refine LL.val (R.field rfl rfl (I.fld rfl)) rfl rfl rfl ?_
  refine LL.store rfl rfl rfl rfl h (by exact Nat.le_of_ble_eq_true rfl) rfl rfl rfl rfl ?_
  intro W2 r3 b1 z4
  have hlb1 := h.lt
  replace r3 : RowL W2 _ 56 [c0, c1, c2, c3, c4, c5, c6, c7, c8, c9, Value.int IntKind.i64 2, c11] := r3
  clear h
  replace gw := gw.gr b1 (by omega)
  have h := r3
  clear r3
  refine LL.nilS ?_
  refine CC.seq ?_
  refine CC.region ?_
  refine LL.val (R.move rfl rfl) rfl rfl rfl ?_
  refine LL.nilS ?_
  refine CC.block ?_
  refine CC.seq ?_
  refine CC.region ?_
  refine LL.val (R.eqF rfl rfl rfl (by omega)) rfl rfl rfl ?_
  refine LL.val (R.assign rfl rfl) rfl rfl rfl ?_
  refine LL.nilS ?_
  refine CC.no rfl ?_
  refine CC.seq ?_
  refine CC.region ?_
  refine LL.val (R.eqF rfl rfl rfl (by omega)) rfl rfl rfl ?_
  refine LL.val (R.assign rfl rfl) rfl rfl rfl ?_
  refine LL.nilS ?_
  refine CC.no rfl ?_
  refine CC.seq ?_
  refine CC.region ?_
  refine LL.val (R.eqT rfl rfl rfl (by omega)) rfl rfl rfl ?_
  refine LL.val (R.assign rfl rfl) rfl rfl rfl ?_
  refine LL.nilS ?_
  refine CC.yes rfl ?_
  refine CC.region ?_
  refine LL.val (R.move rfl rfl) rfl rfl rfl ?_
  refine LL.val (R.move rfl rfl) rfl rfl rfl ?_
  refine LL.val (R.func rfl rfl rfl) rfl rfl rfl ?_
  refine LL.val (R.nil rfl rfl) rfl rfl rfl ?_
  refine LL.val (R.field rfl rfl (I.fld rfl)) rfl rfl rfl ?_
  refine LL.store rfl rfl rfl rfl h (by exact Nat.le_of_ble_eq_true rfl) rfl rfl rfl rfl ?_
  intro W6 r7 b5 z8
  have hlb5 := h.lt
  replace r7 : RowL W6 _ 56 [c0, c1, c2, c3, c4, c5, c6, c7, c8, c9, Value.int IntKind.i64 2, Value.func (Fn.func 58) #[Value.pointer (some { block := g, off := 0 })] #[]] := r7
  clear h
  replace gw := gw.gr b5 (by omega)
  have h := r7
  clear r7
  refine LL.nil ?_
  refine EE.inN ?_
  refine EE.end _ rfl rfl ?_
  exact ⟨rfl, h, gw⟩
theorem turn_3 (g : Nat) {c0 c1 c2 c3 c4 c5 c6 c7 c8 c9 c10 c11 : Value} {w : World} (h : RowL w g 56 [c0, c1, c2, c3, c4, c5, c6, c7, c8, c9, c10, c11]) : Calls Try.prog 40 #[.pointer (some ⟨g, 0, none⟩), .int .i64 3] w fun e w' => e = .returned (.tuple #[]) ∧ RowL w' g 56 [c0, c1, c2, c3, c4, c5, c6, c7, c8, c9, .int .i64 3, .func (.func 59) #[.pointer (some ⟨g, 0, none⟩)] #[]] ∧ Kept (fun j => j < w.heap.size ∧ j ≠ g) w w' := by
  have gw := Gw.refl g w
  refine X.fn Try.func40 rfl (n := 72) rfl rfl ?_
  refine CC.seq ?_
  refine CC.region ?_
  refine LL.val (R.move rfl rfl) rfl rfl rfl ?_
  refine LL.val (R.move rfl rfl) rfl rfl rfl ?_
  refine LL.val (R.nil rfl rfl) rfl rfl rfl ?_
  refine LL.val (R.field rfl rfl (I.fld rfl)) rfl rfl rfl ?_
  refine LL.store rfl rfl rfl rfl h (by exact Nat.le_of_ble_eq_true rfl) rfl rfl rfl rfl ?_
  intro W2 r3 b1 z4
  have hlb1 := h.lt
  replace r3 : RowL W2 _ 56 [c0, c1, c2, c3, c4, c5, c6, c7, c8, c9, Value.int IntKind.i64 3, c11] := r3
  clear h
  replace gw := gw.gr b1 (by omega)
  have h := r3
  clear r3
  refine LL.nilS ?_
  refine CC.seq ?_
  refine CC.region ?_
  refine LL.val (R.move rfl rfl) rfl rfl rfl ?_
  refine LL.nilS ?_
  refine CC.block ?_
  refine CC.seq ?_
  refine CC.region ?_
  refine LL.val (R.eqF rfl rfl rfl (by omega)) rfl rfl rfl ?_
  refine LL.val (R.assign rfl rfl) rfl rfl rfl ?_
  refine LL.nilS ?_
  refine CC.no rfl ?_
  refine CC.seq ?_
  refine CC.region ?_
  refine LL.val (R.eqF rfl rfl rfl (by omega)) rfl rfl rfl ?_
  refine LL.val (R.assign rfl rfl) rfl rfl rfl ?_
  refine LL.nilS ?_
  refine CC.no rfl ?_
  refine CC.seq ?_
  refine CC.region ?_
  refine LL.val (R.eqF rfl rfl rfl (by omega)) rfl rfl rfl ?_
  refine LL.val (R.assign rfl rfl) rfl rfl rfl ?_
  refine LL.nilS ?_
  refine CC.no rfl ?_
  refine CC.seq ?_
  refine CC.region ?_
  refine LL.val (R.eqT rfl rfl rfl (by omega)) rfl rfl rfl ?_
  refine LL.val (R.assign rfl rfl) rfl rfl rfl ?_
  refine LL.nilS ?_
  refine CC.yes rfl ?_
  refine CC.region ?_
  refine LL.val (R.move rfl rfl) rfl rfl rfl ?_
  refine LL.val (R.move rfl rfl) rfl rfl rfl ?_
  refine LL.val (R.func rfl rfl rfl) rfl rfl rfl ?_
  refine LL.val (R.nil rfl rfl) rfl rfl rfl ?_
  refine LL.val (R.field rfl rfl (I.fld rfl)) rfl rfl rfl ?_
  refine LL.store rfl rfl rfl rfl h (by exact Nat.le_of_ble_eq_true rfl) rfl rfl rfl rfl ?_
  intro W6 r7 b5 z8
  have hlb5 := h.lt
  replace r7 : RowL W6 _ 56 [c0, c1, c2, c3, c4, c5, c6, c7, c8, c9, Value.int IntKind.i64 3, Value.func (Fn.func 59) #[Value.pointer (some { block := g, off := 0 })] #[]] := r7
  clear h
  replace gw := gw.gr b5 (by omega)
  have h := r7
  clear r7
  refine LL.nil ?_
  refine EE.inN ?_
  refine EE.end _ rfl rfl ?_
  exact ⟨rfl, h, gw⟩
theorem turn_4 (g : Nat) {c0 c1 c2 c3 c4 c5 c6 c7 c8 c9 c10 c11 : Value} {w : World} (h : RowL w g 56 [c0, c1, c2, c3, c4, c5, c6, c7, c8, c9, c10, c11]) : Calls Try.prog 40 #[.pointer (some ⟨g, 0, none⟩), .int .i64 4] w fun e w' => e = .returned (.tuple #[]) ∧ RowL w' g 56 [c0, c1, c2, c3, c4, c5, c6, c7, c8, c9, .int .i64 4, .func (.func 60) #[.pointer (some ⟨g, 0, none⟩)] #[]] ∧ Kept (fun j => j < w.heap.size ∧ j ≠ g) w w' := by
  have gw := Gw.refl g w
  refine X.fn Try.func40 rfl (n := 72) rfl rfl ?_
  refine CC.seq ?_
  refine CC.region ?_
  refine LL.val (R.move rfl rfl) rfl rfl rfl ?_
  refine LL.val (R.move rfl rfl) rfl rfl rfl ?_
  refine LL.val (R.nil rfl rfl) rfl rfl rfl ?_
  refine LL.val (R.field rfl rfl (I.fld rfl)) rfl rfl rfl ?_
  refine LL.store rfl rfl rfl rfl h (by exact Nat.le_of_ble_eq_true rfl) rfl rfl rfl rfl ?_
  intro W2 r3 b1 z4
  have hlb1 := h.lt
  replace r3 : RowL W2 _ 56 [c0, c1, c2, c3, c4, c5, c6, c7, c8, c9, Value.int IntKind.i64 4, c11] := r3
  clear h
  replace gw := gw.gr b1 (by omega)
  have h := r3
  clear r3
  refine LL.nilS ?_
  refine CC.seq ?_
  refine CC.region ?_
  refine LL.val (R.move rfl rfl) rfl rfl rfl ?_
  refine LL.nilS ?_
  refine CC.block ?_
  refine CC.seq ?_
  refine CC.region ?_
  refine LL.val (R.eqF rfl rfl rfl (by omega)) rfl rfl rfl ?_
  refine LL.val (R.assign rfl rfl) rfl rfl rfl ?_
  refine LL.nilS ?_
  refine CC.no rfl ?_
  refine CC.seq ?_
  refine CC.region ?_
  refine LL.val (R.eqF rfl rfl rfl (by omega)) rfl rfl rfl ?_
  refine LL.val (R.assign rfl rfl) rfl rfl rfl ?_
  refine LL.nilS ?_
  refine CC.no rfl ?_
  refine CC.seq ?_
  refine CC.region ?_
  refine LL.val (R.eqF rfl rfl rfl (by omega)) rfl rfl rfl ?_
  refine LL.val (R.assign rfl rfl) rfl rfl rfl ?_
  refine LL.nilS ?_
  refine CC.no rfl ?_
  refine CC.seq ?_
  refine CC.region ?_
  refine LL.val (R.eqF rfl rfl rfl (by omega)) rfl rfl rfl ?_
  refine LL.val (R.assign rfl rfl) rfl rfl rfl ?_
  refine LL.nilS ?_
  refine CC.no rfl ?_
  refine CC.seq ?_
  refine CC.region ?_
  refine LL.val (R.eqT rfl rfl rfl (by omega)) rfl rfl rfl ?_
  refine LL.val (R.assign rfl rfl) rfl rfl rfl ?_
  refine LL.nilS ?_
  refine CC.yes rfl ?_
  refine CC.region ?_
  refine LL.val (R.move rfl rfl) rfl rfl rfl ?_
  refine LL.val (R.move rfl rfl) rfl rfl rfl ?_
  refine LL.val (R.func rfl rfl rfl) rfl rfl rfl ?_
  refine LL.val (R.nil rfl rfl) rfl rfl rfl ?_
  refine LL.val (R.field rfl rfl (I.fld rfl)) rfl rfl rfl ?_
  refine LL.store rfl rfl rfl rfl h (by exact Nat.le_of_ble_eq_true rfl) rfl rfl rfl rfl ?_
  intro W6 r7 b5 z8
  have hlb5 := h.lt
  replace r7 : RowL W6 _ 56 [c0, c1, c2, c3, c4, c5, c6, c7, c8, c9, Value.int IntKind.i64 4, Value.func (Fn.func 60) #[Value.pointer (some { block := g, off := 0 })] #[]] := r7
  clear h
  replace gw := gw.gr b5 (by omega)
  have h := r7
  clear r7
  refine LL.nil ?_
  refine EE.inN ?_
  refine EE.end _ rfl rfl ?_
  exact ⟨rfl, h, gw⟩
theorem turn_5 (g : Nat) {c0 c1 c2 c3 c4 c5 c6 c7 c8 c9 c10 c11 : Value} {w : World} (h : RowL w g 56 [c0, c1, c2, c3, c4, c5, c6, c7, c8, c9, c10, c11]) : Calls Try.prog 40 #[.pointer (some ⟨g, 0, none⟩), .int .i64 5] w fun e w' => e = .returned (.tuple #[]) ∧ RowL w' g 56 [c0, c1, c2, c3, c4, c5, c6, c7, c8, c9, .int .i64 5, .func (.func 61) #[.pointer (some ⟨g, 0, none⟩)] #[]] ∧ Kept (fun j => j < w.heap.size ∧ j ≠ g) w w' := by
  have gw := Gw.refl g w
  refine X.fn Try.func40 rfl (n := 72) rfl rfl ?_
  refine CC.seq ?_
  refine CC.region ?_
  refine LL.val (R.move rfl rfl) rfl rfl rfl ?_
  refine LL.val (R.move rfl rfl) rfl rfl rfl ?_
  refine LL.val (R.nil rfl rfl) rfl rfl rfl ?_
  refine LL.val (R.field rfl rfl (I.fld rfl)) rfl rfl rfl ?_
  refine LL.store rfl rfl rfl rfl h (by exact Nat.le_of_ble_eq_true rfl) rfl rfl rfl rfl ?_
  intro W2 r3 b1 z4
  have hlb1 := h.lt
  replace r3 : RowL W2 _ 56 [c0, c1, c2, c3, c4, c5, c6, c7, c8, c9, Value.int IntKind.i64 5, c11] := r3
  clear h
  replace gw := gw.gr b1 (by omega)
  have h := r3
  clear r3
  refine LL.nilS ?_
  refine CC.seq ?_
  refine CC.region ?_
  refine LL.val (R.move rfl rfl) rfl rfl rfl ?_
  refine LL.nilS ?_
  refine CC.block ?_
  refine CC.seq ?_
  refine CC.region ?_
  refine LL.val (R.eqF rfl rfl rfl (by omega)) rfl rfl rfl ?_
  refine LL.val (R.assign rfl rfl) rfl rfl rfl ?_
  refine LL.nilS ?_
  refine CC.no rfl ?_
  refine CC.seq ?_
  refine CC.region ?_
  refine LL.val (R.eqF rfl rfl rfl (by omega)) rfl rfl rfl ?_
  refine LL.val (R.assign rfl rfl) rfl rfl rfl ?_
  refine LL.nilS ?_
  refine CC.no rfl ?_
  refine CC.seq ?_
  refine CC.region ?_
  refine LL.val (R.eqF rfl rfl rfl (by omega)) rfl rfl rfl ?_
  refine LL.val (R.assign rfl rfl) rfl rfl rfl ?_
  refine LL.nilS ?_
  refine CC.no rfl ?_
  refine CC.seq ?_
  refine CC.region ?_
  refine LL.val (R.eqF rfl rfl rfl (by omega)) rfl rfl rfl ?_
  refine LL.val (R.assign rfl rfl) rfl rfl rfl ?_
  refine LL.nilS ?_
  refine CC.no rfl ?_
  refine CC.seq ?_
  refine CC.region ?_
  refine LL.val (R.eqF rfl rfl rfl (by omega)) rfl rfl rfl ?_
  refine LL.val (R.assign rfl rfl) rfl rfl rfl ?_
  refine LL.nilS ?_
  refine CC.no rfl ?_
  refine CC.seq ?_
  refine CC.region ?_
  refine LL.val (R.eqT rfl rfl rfl (by omega)) rfl rfl rfl ?_
  refine LL.val (R.assign rfl rfl) rfl rfl rfl ?_
  refine LL.nilS ?_
  refine CC.yes rfl ?_
  refine CC.region ?_
  refine LL.val (R.move rfl rfl) rfl rfl rfl ?_
  refine LL.val (R.move rfl rfl) rfl rfl rfl ?_
  refine LL.val (R.func rfl rfl rfl) rfl rfl rfl ?_
  refine LL.val (R.nil rfl rfl) rfl rfl rfl ?_
  refine LL.val (R.field rfl rfl (I.fld rfl)) rfl rfl rfl ?_
  refine LL.store rfl rfl rfl rfl h (by exact Nat.le_of_ble_eq_true rfl) rfl rfl rfl rfl ?_
  intro W6 r7 b5 z8
  have hlb5 := h.lt
  replace r7 : RowL W6 _ 56 [c0, c1, c2, c3, c4, c5, c6, c7, c8, c9, Value.int IntKind.i64 5, Value.func (Fn.func 61) #[Value.pointer (some { block := g, off := 0 })] #[]] := r7
  clear h
  replace gw := gw.gr b5 (by omega)
  have h := r7
  clear r7
  refine LL.nil ?_
  refine EE.inN ?_
  refine EE.end _ rfl rfl ?_
  exact ⟨rfl, h, gw⟩
theorem turn_6 (g : Nat) {c0 c1 c2 c3 c4 c5 c6 c7 c8 c9 c10 c11 : Value} {w : World} (h : RowL w g 56 [c0, c1, c2, c3, c4, c5, c6, c7, c8, c9, c10, c11]) : Calls Try.prog 40 #[.pointer (some ⟨g, 0, none⟩), .int .i64 6] w fun e w' => e = .returned (.tuple #[]) ∧ RowL w' g 56 [c0, c1, c2, c3, c4, c5, c6, c7, c8, c9, .int .i64 6, .func (.func 62) #[.pointer (some ⟨g, 0, none⟩)] #[]] ∧ Kept (fun j => j < w.heap.size ∧ j ≠ g) w w' := by
  have gw := Gw.refl g w
  refine X.fn Try.func40 rfl (n := 72) rfl rfl ?_
  refine CC.seq ?_
  refine CC.region ?_
  refine LL.val (R.move rfl rfl) rfl rfl rfl ?_
  refine LL.val (R.move rfl rfl) rfl rfl rfl ?_
  refine LL.val (R.nil rfl rfl) rfl rfl rfl ?_
  refine LL.val (R.field rfl rfl (I.fld rfl)) rfl rfl rfl ?_
  refine LL.store rfl rfl rfl rfl h (by exact Nat.le_of_ble_eq_true rfl) rfl rfl rfl rfl ?_
  intro W2 r3 b1 z4
  have hlb1 := h.lt
  replace r3 : RowL W2 _ 56 [c0, c1, c2, c3, c4, c5, c6, c7, c8, c9, Value.int IntKind.i64 6, c11] := r3
  clear h
  replace gw := gw.gr b1 (by omega)
  have h := r3
  clear r3
  refine LL.nilS ?_
  refine CC.seq ?_
  refine CC.region ?_
  refine LL.val (R.move rfl rfl) rfl rfl rfl ?_
  refine LL.nilS ?_
  refine CC.block ?_
  refine CC.seq ?_
  refine CC.region ?_
  refine LL.val (R.eqF rfl rfl rfl (by omega)) rfl rfl rfl ?_
  refine LL.val (R.assign rfl rfl) rfl rfl rfl ?_
  refine LL.nilS ?_
  refine CC.no rfl ?_
  refine CC.seq ?_
  refine CC.region ?_
  refine LL.val (R.eqF rfl rfl rfl (by omega)) rfl rfl rfl ?_
  refine LL.val (R.assign rfl rfl) rfl rfl rfl ?_
  refine LL.nilS ?_
  refine CC.no rfl ?_
  refine CC.seq ?_
  refine CC.region ?_
  refine LL.val (R.eqF rfl rfl rfl (by omega)) rfl rfl rfl ?_
  refine LL.val (R.assign rfl rfl) rfl rfl rfl ?_
  refine LL.nilS ?_
  refine CC.no rfl ?_
  refine CC.seq ?_
  refine CC.region ?_
  refine LL.val (R.eqF rfl rfl rfl (by omega)) rfl rfl rfl ?_
  refine LL.val (R.assign rfl rfl) rfl rfl rfl ?_
  refine LL.nilS ?_
  refine CC.no rfl ?_
  refine CC.seq ?_
  refine CC.region ?_
  refine LL.val (R.eqF rfl rfl rfl (by omega)) rfl rfl rfl ?_
  refine LL.val (R.assign rfl rfl) rfl rfl rfl ?_
  refine LL.nilS ?_
  refine CC.no rfl ?_
  refine CC.seq ?_
  refine CC.region ?_
  refine LL.val (R.eqF rfl rfl rfl (by omega)) rfl rfl rfl ?_
  refine LL.val (R.assign rfl rfl) rfl rfl rfl ?_
  refine LL.nilS ?_
  refine CC.no rfl ?_
  refine CC.seq ?_
  refine CC.region ?_
  refine LL.val (R.eqT rfl rfl rfl (by omega)) rfl rfl rfl ?_
  refine LL.val (R.assign rfl rfl) rfl rfl rfl ?_
  refine LL.nilS ?_
  refine CC.yes rfl ?_
  refine CC.region ?_
  refine LL.val (R.move rfl rfl) rfl rfl rfl ?_
  refine LL.val (R.move rfl rfl) rfl rfl rfl ?_
  refine LL.val (R.func rfl rfl rfl) rfl rfl rfl ?_
  refine LL.val (R.nil rfl rfl) rfl rfl rfl ?_
  refine LL.val (R.field rfl rfl (I.fld rfl)) rfl rfl rfl ?_
  refine LL.store rfl rfl rfl rfl h (by exact Nat.le_of_ble_eq_true rfl) rfl rfl rfl rfl ?_
  intro W6 r7 b5 z8
  have hlb5 := h.lt
  replace r7 : RowL W6 _ 56 [c0, c1, c2, c3, c4, c5, c6, c7, c8, c9, Value.int IntKind.i64 6, Value.func (Fn.func 62) #[Value.pointer (some { block := g, off := 0 })] #[]] := r7
  clear h
  replace gw := gw.gr b5 (by omega)
  have h := r7
  clear r7
  refine LL.nil ?_
  refine EE.inN ?_
  refine EE.end _ rfl rfl ?_
  exact ⟨rfl, h, gw⟩
theorem turn_7 (g : Nat) {c0 c1 c2 c3 c4 c5 c6 c7 c8 c9 c10 c11 : Value} {w : World} (h : RowL w g 56 [c0, c1, c2, c3, c4, c5, c6, c7, c8, c9, c10, c11]) : Calls Try.prog 40 #[.pointer (some ⟨g, 0, none⟩), .int .i64 7] w fun e w' => e = .returned (.tuple #[]) ∧ RowL w' g 56 [c0, c1, c2, c3, c4, c5, c6, c7, c8, c9, .int .i64 7, .func (.func 63) #[.pointer (some ⟨g, 0, none⟩)] #[]] ∧ Kept (fun j => j < w.heap.size ∧ j ≠ g) w w' := by
  have gw := Gw.refl g w
  refine X.fn Try.func40 rfl (n := 72) rfl rfl ?_
  refine CC.seq ?_
  refine CC.region ?_
  refine LL.val (R.move rfl rfl) rfl rfl rfl ?_
  refine LL.val (R.move rfl rfl) rfl rfl rfl ?_
  refine LL.val (R.nil rfl rfl) rfl rfl rfl ?_
  refine LL.val (R.field rfl rfl (I.fld rfl)) rfl rfl rfl ?_
  refine LL.store rfl rfl rfl rfl h (by exact Nat.le_of_ble_eq_true rfl) rfl rfl rfl rfl ?_
  intro W2 r3 b1 z4
  have hlb1 := h.lt
  replace r3 : RowL W2 _ 56 [c0, c1, c2, c3, c4, c5, c6, c7, c8, c9, Value.int IntKind.i64 7, c11] := r3
  clear h
  replace gw := gw.gr b1 (by omega)
  have h := r3
  clear r3
  refine LL.nilS ?_
  refine CC.seq ?_
  refine CC.region ?_
  refine LL.val (R.move rfl rfl) rfl rfl rfl ?_
  refine LL.nilS ?_
  refine CC.block ?_
  refine CC.seq ?_
  refine CC.region ?_
  refine LL.val (R.eqF rfl rfl rfl (by omega)) rfl rfl rfl ?_
  refine LL.val (R.assign rfl rfl) rfl rfl rfl ?_
  refine LL.nilS ?_
  refine CC.no rfl ?_
  refine CC.seq ?_
  refine CC.region ?_
  refine LL.val (R.eqF rfl rfl rfl (by omega)) rfl rfl rfl ?_
  refine LL.val (R.assign rfl rfl) rfl rfl rfl ?_
  refine LL.nilS ?_
  refine CC.no rfl ?_
  refine CC.seq ?_
  refine CC.region ?_
  refine LL.val (R.eqF rfl rfl rfl (by omega)) rfl rfl rfl ?_
  refine LL.val (R.assign rfl rfl) rfl rfl rfl ?_
  refine LL.nilS ?_
  refine CC.no rfl ?_
  refine CC.seq ?_
  refine CC.region ?_
  refine LL.val (R.eqF rfl rfl rfl (by omega)) rfl rfl rfl ?_
  refine LL.val (R.assign rfl rfl) rfl rfl rfl ?_
  refine LL.nilS ?_
  refine CC.no rfl ?_
  refine CC.seq ?_
  refine CC.region ?_
  refine LL.val (R.eqF rfl rfl rfl (by omega)) rfl rfl rfl ?_
  refine LL.val (R.assign rfl rfl) rfl rfl rfl ?_
  refine LL.nilS ?_
  refine CC.no rfl ?_
  refine CC.seq ?_
  refine CC.region ?_
  refine LL.val (R.eqF rfl rfl rfl (by omega)) rfl rfl rfl ?_
  refine LL.val (R.assign rfl rfl) rfl rfl rfl ?_
  refine LL.nilS ?_
  refine CC.no rfl ?_
  refine CC.seq ?_
  refine CC.region ?_
  refine LL.val (R.eqF rfl rfl rfl (by omega)) rfl rfl rfl ?_
  refine LL.val (R.assign rfl rfl) rfl rfl rfl ?_
  refine LL.nilS ?_
  refine CC.no rfl ?_
  refine CC.seq ?_
  refine CC.region ?_
  refine LL.val (R.eqT rfl rfl rfl (by omega)) rfl rfl rfl ?_
  refine LL.val (R.assign rfl rfl) rfl rfl rfl ?_
  refine LL.nilS ?_
  refine CC.yes rfl ?_
  refine CC.region ?_
  refine LL.val (R.move rfl rfl) rfl rfl rfl ?_
  refine LL.val (R.move rfl rfl) rfl rfl rfl ?_
  refine LL.val (R.func rfl rfl rfl) rfl rfl rfl ?_
  refine LL.val (R.nil rfl rfl) rfl rfl rfl ?_
  refine LL.val (R.field rfl rfl (I.fld rfl)) rfl rfl rfl ?_
  refine LL.store rfl rfl rfl rfl h (by exact Nat.le_of_ble_eq_true rfl) rfl rfl rfl rfl ?_
  intro W6 r7 b5 z8
  have hlb5 := h.lt
  replace r7 : RowL W6 _ 56 [c0, c1, c2, c3, c4, c5, c6, c7, c8, c9, Value.int IntKind.i64 7, Value.func (Fn.func 63) #[Value.pointer (some { block := g, off := 0 })] #[]] := r7
  clear h
  replace gw := gw.gr b5 (by omega)
  have h := r7
  clear r7
  refine LL.nil ?_
  refine EE.inN ?_
  refine EE.end _ rfl rfl ?_
  exact ⟨rfl, h, gw⟩
theorem turn_8 (g : Nat) {c0 c1 c2 c3 c4 c5 c6 c7 c8 c9 c10 c11 : Value} {w : World} (h : RowL w g 56 [c0, c1, c2, c3, c4, c5, c6, c7, c8, c9, c10, c11]) : Calls Try.prog 40 #[.pointer (some ⟨g, 0, none⟩), .int .i64 8] w fun e w' => e = .returned (.tuple #[]) ∧ RowL w' g 56 [c0, c1, c2, c3, c4, c5, c6, c7, c8, c9, .int .i64 8, .func (.func 64) #[.pointer (some ⟨g, 0, none⟩)] #[]] ∧ Kept (fun j => j < w.heap.size ∧ j ≠ g) w w' := by
  have gw := Gw.refl g w
  refine X.fn Try.func40 rfl (n := 72) rfl rfl ?_
  refine CC.seq ?_
  refine CC.region ?_
  refine LL.val (R.move rfl rfl) rfl rfl rfl ?_
  refine LL.val (R.move rfl rfl) rfl rfl rfl ?_
  refine LL.val (R.nil rfl rfl) rfl rfl rfl ?_
  refine LL.val (R.field rfl rfl (I.fld rfl)) rfl rfl rfl ?_
  refine LL.store rfl rfl rfl rfl h (by exact Nat.le_of_ble_eq_true rfl) rfl rfl rfl rfl ?_
  intro W2 r3 b1 z4
  have hlb1 := h.lt
  replace r3 : RowL W2 _ 56 [c0, c1, c2, c3, c4, c5, c6, c7, c8, c9, Value.int IntKind.i64 8, c11] := r3
  clear h
  replace gw := gw.gr b1 (by omega)
  have h := r3
  clear r3
  refine LL.nilS ?_
  refine CC.seq ?_
  refine CC.region ?_
  refine LL.val (R.move rfl rfl) rfl rfl rfl ?_
  refine LL.nilS ?_
  refine CC.block ?_
  refine CC.seq ?_
  refine CC.region ?_
  refine LL.val (R.eqF rfl rfl rfl (by omega)) rfl rfl rfl ?_
  refine LL.val (R.assign rfl rfl) rfl rfl rfl ?_
  refine LL.nilS ?_
  refine CC.no rfl ?_
  refine CC.seq ?_
  refine CC.region ?_
  refine LL.val (R.eqF rfl rfl rfl (by omega)) rfl rfl rfl ?_
  refine LL.val (R.assign rfl rfl) rfl rfl rfl ?_
  refine LL.nilS ?_
  refine CC.no rfl ?_
  refine CC.seq ?_
  refine CC.region ?_
  refine LL.val (R.eqF rfl rfl rfl (by omega)) rfl rfl rfl ?_
  refine LL.val (R.assign rfl rfl) rfl rfl rfl ?_
  refine LL.nilS ?_
  refine CC.no rfl ?_
  refine CC.seq ?_
  refine CC.region ?_
  refine LL.val (R.eqF rfl rfl rfl (by omega)) rfl rfl rfl ?_
  refine LL.val (R.assign rfl rfl) rfl rfl rfl ?_
  refine LL.nilS ?_
  refine CC.no rfl ?_
  refine CC.seq ?_
  refine CC.region ?_
  refine LL.val (R.eqF rfl rfl rfl (by omega)) rfl rfl rfl ?_
  refine LL.val (R.assign rfl rfl) rfl rfl rfl ?_
  refine LL.nilS ?_
  refine CC.no rfl ?_
  refine CC.seq ?_
  refine CC.region ?_
  refine LL.val (R.eqF rfl rfl rfl (by omega)) rfl rfl rfl ?_
  refine LL.val (R.assign rfl rfl) rfl rfl rfl ?_
  refine LL.nilS ?_
  refine CC.no rfl ?_
  refine CC.seq ?_
  refine CC.region ?_
  refine LL.val (R.eqF rfl rfl rfl (by omega)) rfl rfl rfl ?_
  refine LL.val (R.assign rfl rfl) rfl rfl rfl ?_
  refine LL.nilS ?_
  refine CC.no rfl ?_
  refine CC.seq ?_
  refine CC.region ?_
  refine LL.val (R.eqF rfl rfl rfl (by omega)) rfl rfl rfl ?_
  refine LL.val (R.assign rfl rfl) rfl rfl rfl ?_
  refine LL.nilS ?_
  refine CC.no rfl ?_
  refine CC.seq ?_
  refine CC.region ?_
  refine LL.val (R.eqT rfl rfl rfl (by omega)) rfl rfl rfl ?_
  refine LL.val (R.assign rfl rfl) rfl rfl rfl ?_
  refine LL.nilS ?_
  refine CC.yes rfl ?_
  refine CC.region ?_
  refine LL.val (R.move rfl rfl) rfl rfl rfl ?_
  refine LL.val (R.move rfl rfl) rfl rfl rfl ?_
  refine LL.val (R.func rfl rfl rfl) rfl rfl rfl ?_
  refine LL.val (R.nil rfl rfl) rfl rfl rfl ?_
  refine LL.val (R.field rfl rfl (I.fld rfl)) rfl rfl rfl ?_
  refine LL.store rfl rfl rfl rfl h (by exact Nat.le_of_ble_eq_true rfl) rfl rfl rfl rfl ?_
  intro W6 r7 b5 z8
  have hlb5 := h.lt
  replace r7 : RowL W6 _ 56 [c0, c1, c2, c3, c4, c5, c6, c7, c8, c9, Value.int IntKind.i64 8, Value.func (Fn.func 64) #[Value.pointer (some { block := g, off := 0 })] #[]] := r7
  clear h
  replace gw := gw.gr b5 (by omega)
  have h := r7
  clear r7
  refine LL.nil ?_
  refine EE.inN ?_
  refine EE.end _ rfl rfl ?_
  exact ⟨rfl, h, gw⟩
theorem ask_0 (g : Nat) (a : Nat) {c0 c1 c2 c3 c4 c5 c6 c7 c8 c9 c10 c11 : Value} {w : World} (h : RowL w g 56 [c0, c1, c2, c3, c4, c5, c6, c7, c8, c9, c10, c11]) (ha : a ≤ 1048576) : Calls Try.prog 67 #[.pointer (some ⟨g, 0, none⟩), .int .i64 (a : Int), .int .i64 0] w fun e w' => e = .returned (.tuple #[]) ∧ RowL w' g 56 [c0, c1, .int .i64 (a : Int), c3, c4, .int .i64 ((2 * a : Nat) : Int), c6, c7, c8, c9, .int .i64 0, .func (.func 56) #[.pointer (some ⟨g, 0, none⟩)] #[]] ∧ Kept (fun j => j < w.heap.size ∧ j ≠ g) w w' := by
  have gw := Gw.refl g w
  refine X.fn Try.func67 rfl (n := 41) rfl rfl ?_
  refine CC.seq ?_
  refine CC.region ?_
  refine LL.val (R.move rfl rfl) rfl rfl rfl ?_
  refine LL.val (R.move rfl rfl) rfl rfl rfl ?_
  refine LL.val (R.nil rfl rfl) rfl rfl rfl ?_
  refine LL.val (R.field rfl rfl (I.fld rfl)) rfl rfl rfl ?_
  refine LL.store rfl rfl rfl rfl h (by exact Nat.le_of_ble_eq_true rfl) rfl rfl rfl rfl ?_
  intro W37 r38 b36 z39
  have hlb36 := h.lt
  replace r38 : RowL W37 _ 56 [c0, c1, Value.int IntKind.i64 ↑a, c3, c4, c5, c6, c7, c8, c9, c10, c11] := r38
  clear h
  replace gw := gw.gr b36 (by omega)
  have h := r38
  clear r38
  refine LL.nilS ?_
  refine CC.seq ?_
  refine CC.seq ?_
  refine CC.region ?_
  refine LL.val (R.move rfl rfl) rfl rfl rfl ?_
  refine LL.nilS ?_
  refine CC.block ?_
  refine CC.seq ?_
  refine CC.seq ?_
  refine CC.region ?_
  refine LL.val (R.eqT rfl rfl rfl (by omega)) rfl rfl rfl ?_
  refine LL.val (R.assign rfl rfl) rfl rfl rfl ?_
  refine LL.nilS ?_
  refine CC.yes rfl ?_
  refine CC.skip ?_
  refine EE.thenN ?_
  refine CC.yes rfl ?_
  refine CC.region ?_
  refine LL.val (R.move rfl rfl) rfl rfl rfl ?_
  refine LL.val (R.move rfl rfl) rfl rfl rfl ?_
  refine LL.val (R.mulcN rfl rfl rfl rfl (by omega)) rfl rfl rfl ?_
  refine LL.val (R.nil rfl rfl) rfl rfl rfl ?_
  refine LL.val (R.field rfl rfl (I.fld rfl)) rfl rfl rfl ?_
  refine LL.store rfl rfl rfl rfl h (by exact Nat.le_of_ble_eq_true rfl) rfl rfl rfl rfl ?_
  intro W104 r105 b103 z106
  have hlb103 := h.lt
  replace r105 : RowL W104 _ 56 [c0, c1, Value.int IntKind.i64 ↑a, c3, c4, Value.int IntKind.i64 ↑(2 * a), c6, c7, c8, c9, c10, c11] := r105
  clear h
  replace gw := gw.gr b103 (by omega)
  have h := r105
  clear r105
  refine LL.nil ?_
  refine EE.inN ?_
  refine EE.thenN ?_
  refine CC.region ?_
  refine LL.val (R.move rfl rfl) rfl rfl rfl ?_
  refine LL.val (R.move rfl rfl) rfl rfl rfl ?_
  (refine LL.call (R.call rfl rfl rfl) rfl rfl rfl (turn_0 g h) ?_; rintro e W124 ⟨rfl, hN, t123⟩; clear h; have h := hN; clear hN; refine ⟨_, rfl, ?_⟩)
  have zt123 := t123.size
  replace gw := gw.kept t123 ⟨by omega, by omega⟩
  refine LL.nil ?_
  refine EE.end _ rfl rfl ?_
  exact ⟨rfl, h, gw⟩
theorem ask_1 (g : Nat) (a : Nat) {c0 c1 c2 c3 c4 c5 c6 c7 c8 c9 c10 c11 : Value} {w : World} (h : RowL w g 56 [c0, c1, c2, c3, c4, c5, c6, c7, c8, c9, c10, c11]) (ha : a ≤ 1048576) : Calls Try.prog 67 #[.pointer (some ⟨g, 0, none⟩), .int .i64 (a : Int), .int .i64 1] w fun e w' => e = .returned (.tuple #[]) ∧ RowL w' g 56 [c0, c1, .int .i64 (a : Int), c3, c4, .int .i64 (2 * (a : Int) - 1), c6, c7, c8, c9, .int .i64 1, .func (.func 57) #[.pointer (some ⟨g, 0, none⟩)] #[]] ∧ Kept (fun j => j < w.heap.size ∧ j ≠ g) w w' := by
  have gw := Gw.refl g w
  refine X.fn Try.func67 rfl (n := 41) rfl rfl ?_
  refine CC.seq ?_
  refine CC.region ?_
  refine LL.val (R.move rfl rfl) rfl rfl rfl ?_
  refine LL.val (R.move rfl rfl) rfl rfl rfl ?_
  refine LL.val (R.nil rfl rfl) rfl rfl rfl ?_
  refine LL.val (R.field rfl rfl (I.fld rfl)) rfl rfl rfl ?_
  refine LL.store rfl rfl rfl rfl h (by exact Nat.le_of_ble_eq_true rfl) rfl rfl rfl rfl ?_
  intro W37 r38 b36 z39
  have hlb36 := h.lt
  replace r38 : RowL W37 _ 56 [c0, c1, Value.int IntKind.i64 ↑a, c3, c4, c5, c6, c7, c8, c9, c10, c11] := r38
  clear h
  replace gw := gw.gr b36 (by omega)
  have h := r38
  clear r38
  refine LL.nilS ?_
  refine CC.seq ?_
  refine CC.seq ?_
  refine CC.region ?_
  refine LL.val (R.move rfl rfl) rfl rfl rfl ?_
  refine LL.nilS ?_
  refine CC.block ?_
  refine CC.seq ?_
  refine CC.seq ?_
  refine CC.region ?_
  refine LL.val (R.eqF rfl rfl rfl (by omega)) rfl rfl rfl ?_
  refine LL.val (R.assign rfl rfl) rfl rfl rfl ?_
  refine LL.nilS ?_
  refine CC.no rfl ?_
  refine CC.seq ?_
  refine CC.region ?_
  refine LL.val (R.eqF rfl rfl rfl (by omega)) rfl rfl rfl ?_
  refine LL.val (R.assign rfl rfl) rfl rfl rfl ?_
  refine LL.nilS ?_
  refine CC.no rfl ?_
  refine CC.seq ?_
  refine CC.region ?_
  refine LL.val (R.eqF rfl rfl rfl (by omega)) rfl rfl rfl ?_
  refine LL.val (R.assign rfl rfl) rfl rfl rfl ?_
  refine LL.nilS ?_
  refine CC.no rfl ?_
  refine CC.region ?_
  refine LL.val (R.eqF rfl rfl rfl (by omega)) rfl rfl rfl ?_
  refine LL.val (R.assign rfl rfl) rfl rfl rfl ?_
  refine LL.nilS ?_
  refine CC.no rfl ?_
  refine CC.seq ?_
  refine CC.seq ?_
  refine CC.region ?_
  refine LL.val (R.eqF rfl rfl rfl (by omega)) rfl rfl rfl ?_
  refine LL.val (R.assign rfl rfl) rfl rfl rfl ?_
  refine LL.nilS ?_
  refine CC.no rfl ?_
  refine CC.seq ?_
  refine CC.region ?_
  refine LL.val (R.eqF rfl rfl rfl (by omega)) rfl rfl rfl ?_
  refine LL.val (R.assign rfl rfl) rfl rfl rfl ?_
  refine LL.nilS ?_
  refine CC.no rfl ?_
  refine CC.region ?_
  refine LL.val (R.eqF rfl rfl rfl (by omega)) rfl rfl rfl ?_
  refine LL.val (R.assign rfl rfl) rfl rfl rfl ?_
  refine LL.nilS ?_
  refine CC.no rfl ?_
  refine CC.region ?_
  refine LL.val (R.move rfl rfl) rfl rfl rfl ?_
  refine LL.val (R.move rfl rfl) rfl rfl rfl ?_
  refine LL.val (R.mulcN rfl rfl rfl rfl (by omega)) rfl rfl rfl ?_
  refine LL.val (R.subI rfl rfl rfl (by omega)) rfl rfl rfl ?_
  refine LL.val (R.max rfl rfl) rfl rfl rfl ?_
  refine LL.val (R.nil rfl rfl) rfl rfl rfl ?_
  refine LL.val (R.field rfl rfl (I.fld rfl)) rfl rfl rfl ?_
  refine LL.store rfl rfl rfl rfl h (by exact Nat.le_of_ble_eq_true rfl) rfl rfl rfl rfl ?_
  intro W202 r203 b201 z204
  have hlb201 := h.lt
  clear h
  replace gw := gw.gr b201 (by omega)
  have h := r203
  clear r203
  refine LL.nil ?_
  refine EE.inN ?_
  refine EE.thenN ?_
  refine CC.region ?_
  refine LL.val (R.move rfl rfl) rfl rfl rfl ?_
  refine LL.val (R.move rfl rfl) rfl rfl rfl ?_
  (refine LL.call (R.call rfl rfl rfl) rfl rfl rfl (turn_1 g h) ?_; rintro e W222 ⟨rfl, hN, t221⟩; clear h; have h := hN; clear hN; refine ⟨_, rfl, ?_⟩)
  have zt221 := t221.size
  replace gw := gw.kept t221 ⟨by omega, by omega⟩
  refine LL.nil ?_
  refine EE.end _ rfl rfl ?_
  (refine ⟨rfl, row_eq h ?_, gw⟩; simp; omega)
theorem ask_2 (g : Nat) (a : Nat) {c0 c1 c2 c3 c4 c5 c6 c7 c8 c9 c10 c11 : Value} {w : World} (h : RowL w g 56 [c0, c1, c2, c3, c4, c5, c6, c7, c8, c9, c10, c11]) (ha : a ≤ 1048576) : Calls Try.prog 67 #[.pointer (some ⟨g, 0, none⟩), .int .i64 (a : Int), .int .i64 2] w fun e w' => e = .returned (.tuple #[]) ∧ RowL w' g 56 [c0, c1, .int .i64 (a : Int), c3, c4, .int .i64 ((2 * a + 1 : Nat) : Int), c6, c7, c8, c9, .int .i64 2, .func (.func 58) #[.pointer (some ⟨g, 0, none⟩)] #[]] ∧ Kept (fun j => j < w.heap.size ∧ j ≠ g) w w' := by
  have gw := Gw.refl g w
  refine X.fn Try.func67 rfl (n := 41) rfl rfl ?_
  refine CC.seq ?_
  refine CC.region ?_
  refine LL.val (R.move rfl rfl) rfl rfl rfl ?_
  refine LL.val (R.move rfl rfl) rfl rfl rfl ?_
  refine LL.val (R.nil rfl rfl) rfl rfl rfl ?_
  refine LL.val (R.field rfl rfl (I.fld rfl)) rfl rfl rfl ?_
  refine LL.store rfl rfl rfl rfl h (by exact Nat.le_of_ble_eq_true rfl) rfl rfl rfl rfl ?_
  intro W37 r38 b36 z39
  have hlb36 := h.lt
  replace r38 : RowL W37 _ 56 [c0, c1, Value.int IntKind.i64 ↑a, c3, c4, c5, c6, c7, c8, c9, c10, c11] := r38
  clear h
  replace gw := gw.gr b36 (by omega)
  have h := r38
  clear r38
  refine LL.nilS ?_
  refine CC.seq ?_
  refine CC.seq ?_
  refine CC.region ?_
  refine LL.val (R.move rfl rfl) rfl rfl rfl ?_
  refine LL.nilS ?_
  refine CC.block ?_
  refine CC.seq ?_
  refine CC.seq ?_
  refine CC.region ?_
  refine LL.val (R.eqF rfl rfl rfl (by omega)) rfl rfl rfl ?_
  refine LL.val (R.assign rfl rfl) rfl rfl rfl ?_
  refine LL.nilS ?_
  refine CC.no rfl ?_
  refine CC.seq ?_
  refine CC.region ?_
  refine LL.val (R.eqF rfl rfl rfl (by omega)) rfl rfl rfl ?_
  refine LL.val (R.assign rfl rfl) rfl rfl rfl ?_
  refine LL.nilS ?_
  refine CC.no rfl ?_
  refine CC.seq ?_
  refine CC.region ?_
  refine LL.val (R.eqF rfl rfl rfl (by omega)) rfl rfl rfl ?_
  refine LL.val (R.assign rfl rfl) rfl rfl rfl ?_
  refine LL.nilS ?_
  refine CC.no rfl ?_
  refine CC.region ?_
  refine LL.val (R.eqF rfl rfl rfl (by omega)) rfl rfl rfl ?_
  refine LL.val (R.assign rfl rfl) rfl rfl rfl ?_
  refine LL.nilS ?_
  refine CC.no rfl ?_
  refine CC.seq ?_
  refine CC.seq ?_
  refine CC.region ?_
  refine LL.val (R.eqT rfl rfl rfl (by omega)) rfl rfl rfl ?_
  refine LL.val (R.assign rfl rfl) rfl rfl rfl ?_
  refine LL.nilS ?_
  refine CC.yes rfl ?_
  refine CC.skip ?_
  refine EE.thenN ?_
  refine CC.yes rfl ?_
  refine CC.region ?_
  refine LL.val (R.move rfl rfl) rfl rfl rfl ?_
  refine LL.val (R.move rfl rfl) rfl rfl rfl ?_
  refine LL.val (R.mulcN rfl rfl rfl rfl (by omega)) rfl rfl rfl ?_
  refine LL.val (R.addNc rfl rfl rfl rfl (by omega)) rfl rfl rfl ?_
  refine LL.val (R.nil rfl rfl) rfl rfl rfl ?_
  refine LL.val (R.field rfl rfl (I.fld rfl)) rfl rfl rfl ?_
  refine LL.store rfl rfl rfl rfl h (by exact Nat.le_of_ble_eq_true rfl) rfl rfl rfl rfl ?_
  intro W167 r168 b166 z169
  have hlb166 := h.lt
  replace r168 : RowL W167 _ 56 [c0, c1, Value.int IntKind.i64 ↑a, c3, c4, Value.int IntKind.i64 ↑(2 * a + 1), c6, c7, c8, c9, c10, c11] := r168
  clear h
  replace gw := gw.gr b166 (by omega)
  have h := r168
  clear r168
  refine LL.nil ?_
  refine EE.inN ?_
  refine EE.thenN ?_
  refine CC.region ?_
  refine LL.val (R.move rfl rfl) rfl rfl rfl ?_
  refine LL.val (R.move rfl rfl) rfl rfl rfl ?_
  (refine LL.call (R.call rfl rfl rfl) rfl rfl rfl (turn_2 g h) ?_; rintro e W187 ⟨rfl, hN, t186⟩; clear h; have h := hN; clear hN; refine ⟨_, rfl, ?_⟩)
  have zt186 := t186.size
  replace gw := gw.kept t186 ⟨by omega, by omega⟩
  refine LL.nil ?_
  refine EE.end _ rfl rfl ?_
  exact ⟨rfl, h, gw⟩
theorem ask_3 (g : Nat) (a : Nat) {c0 c1 c2 c3 c4 c5 c6 c7 c8 c9 c10 c11 : Value} {w : World} (h : RowL w g 56 [c0, c1, c2, c3, c4, c5, c6, c7, c8, c9, c10, c11]) (ha : a ≤ 1048576) : Calls Try.prog 67 #[.pointer (some ⟨g, 0, none⟩), .int .i64 (a : Int), .int .i64 3] w fun e w' => e = .returned (.tuple #[]) ∧ RowL w' g 56 [c0, c1, .int .i64 (a : Int), c3, c4, .int .i64 ((2 * a : Nat) : Int), c6, c7, c8, c9, .int .i64 3, .func (.func 59) #[.pointer (some ⟨g, 0, none⟩)] #[]] ∧ Kept (fun j => j < w.heap.size ∧ j ≠ g) w w' := by
  have gw := Gw.refl g w
  refine X.fn Try.func67 rfl (n := 41) rfl rfl ?_
  refine CC.seq ?_
  refine CC.region ?_
  refine LL.val (R.move rfl rfl) rfl rfl rfl ?_
  refine LL.val (R.move rfl rfl) rfl rfl rfl ?_
  refine LL.val (R.nil rfl rfl) rfl rfl rfl ?_
  refine LL.val (R.field rfl rfl (I.fld rfl)) rfl rfl rfl ?_
  refine LL.store rfl rfl rfl rfl h (by exact Nat.le_of_ble_eq_true rfl) rfl rfl rfl rfl ?_
  intro W37 r38 b36 z39
  have hlb36 := h.lt
  replace r38 : RowL W37 _ 56 [c0, c1, Value.int IntKind.i64 ↑a, c3, c4, c5, c6, c7, c8, c9, c10, c11] := r38
  clear h
  replace gw := gw.gr b36 (by omega)
  have h := r38
  clear r38
  refine LL.nilS ?_
  refine CC.seq ?_
  refine CC.seq ?_
  refine CC.region ?_
  refine LL.val (R.move rfl rfl) rfl rfl rfl ?_
  refine LL.nilS ?_
  refine CC.block ?_
  refine CC.seq ?_
  refine CC.seq ?_
  refine CC.region ?_
  refine LL.val (R.eqF rfl rfl rfl (by omega)) rfl rfl rfl ?_
  refine LL.val (R.assign rfl rfl) rfl rfl rfl ?_
  refine LL.nilS ?_
  refine CC.no rfl ?_
  refine CC.seq ?_
  refine CC.region ?_
  refine LL.val (R.eqF rfl rfl rfl (by omega)) rfl rfl rfl ?_
  refine LL.val (R.assign rfl rfl) rfl rfl rfl ?_
  refine LL.nilS ?_
  refine CC.no rfl ?_
  refine CC.seq ?_
  refine CC.region ?_
  refine LL.val (R.eqT rfl rfl rfl (by omega)) rfl rfl rfl ?_
  refine LL.val (R.assign rfl rfl) rfl rfl rfl ?_
  refine LL.nilS ?_
  refine CC.yes rfl ?_
  refine CC.skip ?_
  refine EE.thenN ?_
  refine CC.yes rfl ?_
  refine CC.region ?_
  refine LL.val (R.move rfl rfl) rfl rfl rfl ?_
  refine LL.val (R.move rfl rfl) rfl rfl rfl ?_
  refine LL.val (R.mulcN rfl rfl rfl rfl (by omega)) rfl rfl rfl ?_
  refine LL.val (R.nil rfl rfl) rfl rfl rfl ?_
  refine LL.val (R.field rfl rfl (I.fld rfl)) rfl rfl rfl ?_
  refine LL.store rfl rfl rfl rfl h (by exact Nat.le_of_ble_eq_true rfl) rfl rfl rfl rfl ?_
  intro W132 r133 b131 z134
  have hlb131 := h.lt
  replace r133 : RowL W132 _ 56 [c0, c1, Value.int IntKind.i64 ↑a, c3, c4, Value.int IntKind.i64 ↑(2 * a), c6, c7, c8, c9, c10, c11] := r133
  clear h
  replace gw := gw.gr b131 (by omega)
  have h := r133
  clear r133
  refine LL.nil ?_
  refine EE.inN ?_
  refine EE.thenN ?_
  refine CC.region ?_
  refine LL.val (R.move rfl rfl) rfl rfl rfl ?_
  refine LL.val (R.move rfl rfl) rfl rfl rfl ?_
  (refine LL.call (R.call rfl rfl rfl) rfl rfl rfl (turn_3 g h) ?_; rintro e W152 ⟨rfl, hN, t151⟩; clear h; have h := hN; clear hN; refine ⟨_, rfl, ?_⟩)
  have zt151 := t151.size
  replace gw := gw.kept t151 ⟨by omega, by omega⟩
  refine LL.nil ?_
  refine EE.end _ rfl rfl ?_
  exact ⟨rfl, h, gw⟩
theorem ask_4 (g : Nat) (a : Nat) {c0 c1 c2 c3 c4 c5 c6 c7 c8 c9 c10 c11 : Value} {w : World} (h : RowL w g 56 [c0, c1, c2, c3, c4, c5, c6, c7, c8, c9, c10, c11]) (ha : a ≤ 1048576) : Calls Try.prog 67 #[.pointer (some ⟨g, 0, none⟩), .int .i64 (a : Int), .int .i64 4] w fun e w' => e = .returned (.tuple #[]) ∧ RowL w' g 56 [c0, c1, .int .i64 (a : Int), c3, c4, .int .i64 ((2 * a + 1 : Nat) : Int), c6, c7, c8, c9, .int .i64 4, .func (.func 60) #[.pointer (some ⟨g, 0, none⟩)] #[]] ∧ Kept (fun j => j < w.heap.size ∧ j ≠ g) w w' := by
  have gw := Gw.refl g w
  refine X.fn Try.func67 rfl (n := 41) rfl rfl ?_
  refine CC.seq ?_
  refine CC.region ?_
  refine LL.val (R.move rfl rfl) rfl rfl rfl ?_
  refine LL.val (R.move rfl rfl) rfl rfl rfl ?_
  refine LL.val (R.nil rfl rfl) rfl rfl rfl ?_
  refine LL.val (R.field rfl rfl (I.fld rfl)) rfl rfl rfl ?_
  refine LL.store rfl rfl rfl rfl h (by exact Nat.le_of_ble_eq_true rfl) rfl rfl rfl rfl ?_
  intro W37 r38 b36 z39
  have hlb36 := h.lt
  replace r38 : RowL W37 _ 56 [c0, c1, Value.int IntKind.i64 ↑a, c3, c4, c5, c6, c7, c8, c9, c10, c11] := r38
  clear h
  replace gw := gw.gr b36 (by omega)
  have h := r38
  clear r38
  refine LL.nilS ?_
  refine CC.seq ?_
  refine CC.seq ?_
  refine CC.region ?_
  refine LL.val (R.move rfl rfl) rfl rfl rfl ?_
  refine LL.nilS ?_
  refine CC.block ?_
  refine CC.seq ?_
  refine CC.seq ?_
  refine CC.region ?_
  refine LL.val (R.eqF rfl rfl rfl (by omega)) rfl rfl rfl ?_
  refine LL.val (R.assign rfl rfl) rfl rfl rfl ?_
  refine LL.nilS ?_
  refine CC.no rfl ?_
  refine CC.seq ?_
  refine CC.region ?_
  refine LL.val (R.eqF rfl rfl rfl (by omega)) rfl rfl rfl ?_
  refine LL.val (R.assign rfl rfl) rfl rfl rfl ?_
  refine LL.nilS ?_
  refine CC.no rfl ?_
  refine CC.seq ?_
  refine CC.region ?_
  refine LL.val (R.eqF rfl rfl rfl (by omega)) rfl rfl rfl ?_
  refine LL.val (R.assign rfl rfl) rfl rfl rfl ?_
  refine LL.nilS ?_
  refine CC.no rfl ?_
  refine CC.region ?_
  refine LL.val (R.eqF rfl rfl rfl (by omega)) rfl rfl rfl ?_
  refine LL.val (R.assign rfl rfl) rfl rfl rfl ?_
  refine LL.nilS ?_
  refine CC.no rfl ?_
  refine CC.seq ?_
  refine CC.seq ?_
  refine CC.region ?_
  refine LL.val (R.eqF rfl rfl rfl (by omega)) rfl rfl rfl ?_
  refine LL.val (R.assign rfl rfl) rfl rfl rfl ?_
  refine LL.nilS ?_
  refine CC.no rfl ?_
  refine CC.seq ?_
  refine CC.region ?_
  refine LL.val (R.eqT rfl rfl rfl (by omega)) rfl rfl rfl ?_
  refine LL.val (R.assign rfl rfl) rfl rfl rfl ?_
  refine LL.nilS ?_
  refine CC.yes rfl ?_
  refine CC.skip ?_
  refine EE.thenN ?_
  refine CC.yes rfl ?_
  refine CC.region ?_
  refine LL.val (R.move rfl rfl) rfl rfl rfl ?_
  refine LL.val (R.move rfl rfl) rfl rfl rfl ?_
  refine LL.val (R.mulcN rfl rfl rfl rfl (by omega)) rfl rfl rfl ?_
  refine LL.val (R.addNc rfl rfl rfl rfl (by omega)) rfl rfl rfl ?_
  refine LL.val (R.nil rfl rfl) rfl rfl rfl ?_
  refine LL.val (R.field rfl rfl (I.fld rfl)) rfl rfl rfl ?_
  refine LL.store rfl rfl rfl rfl h (by exact Nat.le_of_ble_eq_true rfl) rfl rfl rfl rfl ?_
  intro W181 r182 b180 z183
  have hlb180 := h.lt
  replace r182 : RowL W181 _ 56 [c0, c1, Value.int IntKind.i64 ↑a, c3, c4, Value.int IntKind.i64 ↑(2 * a + 1), c6, c7, c8, c9, c10, c11] := r182
  clear h
  replace gw := gw.gr b180 (by omega)
  have h := r182
  clear r182
  refine LL.nil ?_
  refine EE.inN ?_
  refine EE.thenN ?_
  refine CC.region ?_
  refine LL.val (R.move rfl rfl) rfl rfl rfl ?_
  refine LL.val (R.move rfl rfl) rfl rfl rfl ?_
  (refine LL.call (R.call rfl rfl rfl) rfl rfl rfl (turn_4 g h) ?_; rintro e W201 ⟨rfl, hN, t200⟩; clear h; have h := hN; clear hN; refine ⟨_, rfl, ?_⟩)
  have zt200 := t200.size
  replace gw := gw.kept t200 ⟨by omega, by omega⟩
  refine LL.nil ?_
  refine EE.end _ rfl rfl ?_
  exact ⟨rfl, h, gw⟩
theorem ask_5 (g : Nat) (a : Nat) {c0 c1 c2 c3 c4 c5 c6 c7 c8 c9 c10 c11 : Value} {w : World} (h : RowL w g 56 [c0, c1, c2, c3, c4, c5, c6, c7, c8, c9, c10, c11]) (ha : a ≤ 1048576) : Calls Try.prog 67 #[.pointer (some ⟨g, 0, none⟩), .int .i64 (a : Int), .int .i64 5] w fun e w' => e = .returned (.tuple #[]) ∧ RowL w' g 56 [c0, c1, .int .i64 (a : Int), c3, c4, .int .i64 ((2 * a : Nat) : Int), c6, c7, c8, c9, .int .i64 5, .func (.func 61) #[.pointer (some ⟨g, 0, none⟩)] #[]] ∧ Kept (fun j => j < w.heap.size ∧ j ≠ g) w w' := by
  have gw := Gw.refl g w
  refine X.fn Try.func67 rfl (n := 41) rfl rfl ?_
  refine CC.seq ?_
  refine CC.region ?_
  refine LL.val (R.move rfl rfl) rfl rfl rfl ?_
  refine LL.val (R.move rfl rfl) rfl rfl rfl ?_
  refine LL.val (R.nil rfl rfl) rfl rfl rfl ?_
  refine LL.val (R.field rfl rfl (I.fld rfl)) rfl rfl rfl ?_
  refine LL.store rfl rfl rfl rfl h (by exact Nat.le_of_ble_eq_true rfl) rfl rfl rfl rfl ?_
  intro W37 r38 b36 z39
  have hlb36 := h.lt
  replace r38 : RowL W37 _ 56 [c0, c1, Value.int IntKind.i64 ↑a, c3, c4, c5, c6, c7, c8, c9, c10, c11] := r38
  clear h
  replace gw := gw.gr b36 (by omega)
  have h := r38
  clear r38
  refine LL.nilS ?_
  refine CC.seq ?_
  refine CC.seq ?_
  refine CC.region ?_
  refine LL.val (R.move rfl rfl) rfl rfl rfl ?_
  refine LL.nilS ?_
  refine CC.block ?_
  refine CC.seq ?_
  refine CC.seq ?_
  refine CC.region ?_
  refine LL.val (R.eqF rfl rfl rfl (by omega)) rfl rfl rfl ?_
  refine LL.val (R.assign rfl rfl) rfl rfl rfl ?_
  refine LL.nilS ?_
  refine CC.no rfl ?_
  refine CC.seq ?_
  refine CC.region ?_
  refine LL.val (R.eqT rfl rfl rfl (by omega)) rfl rfl rfl ?_
  refine LL.val (R.assign rfl rfl) rfl rfl rfl ?_
  refine LL.nilS ?_
  refine CC.yes rfl ?_
  refine CC.skip ?_
  refine EE.thenN ?_
  refine CC.yes rfl ?_
  refine CC.region ?_
  refine LL.val (R.move rfl rfl) rfl rfl rfl ?_
  refine LL.val (R.move rfl rfl) rfl rfl rfl ?_
  refine LL.val (R.mulcN rfl rfl rfl rfl (by omega)) rfl rfl rfl ?_
  refine LL.val (R.nil rfl rfl) rfl rfl rfl ?_
  refine LL.val (R.field rfl rfl (I.fld rfl)) rfl rfl rfl ?_
  refine LL.store rfl rfl rfl rfl h (by exact Nat.le_of_ble_eq_true rfl) rfl rfl rfl rfl ?_
  intro W118 r119 b117 z120
  have hlb117 := h.lt
  replace r119 : RowL W118 _ 56 [c0, c1, Value.int IntKind.i64 ↑a, c3, c4, Value.int IntKind.i64 ↑(2 * a), c6, c7, c8, c9, c10, c11] := r119
  clear h
  replace gw := gw.gr b117 (by omega)
  have h := r119
  clear r119
  refine LL.nil ?_
  refine EE.inN ?_
  refine EE.thenN ?_
  refine CC.region ?_
  refine LL.val (R.move rfl rfl) rfl rfl rfl ?_
  refine LL.val (R.move rfl rfl) rfl rfl rfl ?_
  (refine LL.call (R.call rfl rfl rfl) rfl rfl rfl (turn_5 g h) ?_; rintro e W138 ⟨rfl, hN, t137⟩; clear h; have h := hN; clear hN; refine ⟨_, rfl, ?_⟩)
  have zt137 := t137.size
  replace gw := gw.kept t137 ⟨by omega, by omega⟩
  refine LL.nil ?_
  refine EE.end _ rfl rfl ?_
  exact ⟨rfl, h, gw⟩
theorem ask_6 (g : Nat) (a : Nat) {c0 c1 c2 c3 c4 c5 c6 c7 c8 c9 c10 c11 : Value} {w : World} (h : RowL w g 56 [c0, c1, c2, c3, c4, c5, c6, c7, c8, c9, c10, c11]) (ha : a ≤ 1048576) : Calls Try.prog 67 #[.pointer (some ⟨g, 0, none⟩), .int .i64 (a : Int), .int .i64 6] w fun e w' => e = .returned (.tuple #[]) ∧ RowL w' g 56 [c0, c1, .int .i64 (a : Int), c3, c4, .int .i64 ((2 * a + 1 : Nat) : Int), c6, c7, c8, c9, .int .i64 6, .func (.func 62) #[.pointer (some ⟨g, 0, none⟩)] #[]] ∧ Kept (fun j => j < w.heap.size ∧ j ≠ g) w w' := by
  have gw := Gw.refl g w
  refine X.fn Try.func67 rfl (n := 41) rfl rfl ?_
  refine CC.seq ?_
  refine CC.region ?_
  refine LL.val (R.move rfl rfl) rfl rfl rfl ?_
  refine LL.val (R.move rfl rfl) rfl rfl rfl ?_
  refine LL.val (R.nil rfl rfl) rfl rfl rfl ?_
  refine LL.val (R.field rfl rfl (I.fld rfl)) rfl rfl rfl ?_
  refine LL.store rfl rfl rfl rfl h (by exact Nat.le_of_ble_eq_true rfl) rfl rfl rfl rfl ?_
  intro W37 r38 b36 z39
  have hlb36 := h.lt
  replace r38 : RowL W37 _ 56 [c0, c1, Value.int IntKind.i64 ↑a, c3, c4, c5, c6, c7, c8, c9, c10, c11] := r38
  clear h
  replace gw := gw.gr b36 (by omega)
  have h := r38
  clear r38
  refine LL.nilS ?_
  refine CC.seq ?_
  refine CC.seq ?_
  refine CC.region ?_
  refine LL.val (R.move rfl rfl) rfl rfl rfl ?_
  refine LL.nilS ?_
  refine CC.block ?_
  refine CC.seq ?_
  refine CC.seq ?_
  refine CC.region ?_
  refine LL.val (R.eqF rfl rfl rfl (by omega)) rfl rfl rfl ?_
  refine LL.val (R.assign rfl rfl) rfl rfl rfl ?_
  refine LL.nilS ?_
  refine CC.no rfl ?_
  refine CC.seq ?_
  refine CC.region ?_
  refine LL.val (R.eqF rfl rfl rfl (by omega)) rfl rfl rfl ?_
  refine LL.val (R.assign rfl rfl) rfl rfl rfl ?_
  refine LL.nilS ?_
  refine CC.no rfl ?_
  refine CC.seq ?_
  refine CC.region ?_
  refine LL.val (R.eqF rfl rfl rfl (by omega)) rfl rfl rfl ?_
  refine LL.val (R.assign rfl rfl) rfl rfl rfl ?_
  refine LL.nilS ?_
  refine CC.no rfl ?_
  refine CC.region ?_
  refine LL.val (R.eqF rfl rfl rfl (by omega)) rfl rfl rfl ?_
  refine LL.val (R.assign rfl rfl) rfl rfl rfl ?_
  refine LL.nilS ?_
  refine CC.no rfl ?_
  refine CC.seq ?_
  refine CC.seq ?_
  refine CC.region ?_
  refine LL.val (R.eqF rfl rfl rfl (by omega)) rfl rfl rfl ?_
  refine LL.val (R.assign rfl rfl) rfl rfl rfl ?_
  refine LL.nilS ?_
  refine CC.no rfl ?_
  refine CC.seq ?_
  refine CC.region ?_
  refine LL.val (R.eqF rfl rfl rfl (by omega)) rfl rfl rfl ?_
  refine LL.val (R.assign rfl rfl) rfl rfl rfl ?_
  refine LL.nilS ?_
  refine CC.no rfl ?_
  refine CC.region ?_
  refine LL.val (R.eqT rfl rfl rfl (by omega)) rfl rfl rfl ?_
  refine LL.val (R.assign rfl rfl) rfl rfl rfl ?_
  refine LL.nilS ?_
  refine CC.yes rfl ?_
  refine CC.region ?_
  refine LL.val (R.move rfl rfl) rfl rfl rfl ?_
  refine LL.val (R.move rfl rfl) rfl rfl rfl ?_
  refine LL.val (R.mulcN rfl rfl rfl rfl (by omega)) rfl rfl rfl ?_
  refine LL.val (R.addNc rfl rfl rfl rfl (by omega)) rfl rfl rfl ?_
  refine LL.val (R.nil rfl rfl) rfl rfl rfl ?_
  refine LL.val (R.field rfl rfl (I.fld rfl)) rfl rfl rfl ?_
  refine LL.store rfl rfl rfl rfl h (by exact Nat.le_of_ble_eq_true rfl) rfl rfl rfl rfl ?_
  intro W195 r196 b194 z197
  have hlb194 := h.lt
  replace r196 : RowL W195 _ 56 [c0, c1, Value.int IntKind.i64 ↑a, c3, c4, Value.int IntKind.i64 ↑(2 * a + 1), c6, c7, c8, c9, c10, c11] := r196
  clear h
  replace gw := gw.gr b194 (by omega)
  have h := r196
  clear r196
  refine LL.nil ?_
  refine EE.inN ?_
  refine EE.thenN ?_
  refine CC.region ?_
  refine LL.val (R.move rfl rfl) rfl rfl rfl ?_
  refine LL.val (R.move rfl rfl) rfl rfl rfl ?_
  (refine LL.call (R.call rfl rfl rfl) rfl rfl rfl (turn_6 g h) ?_; rintro e W215 ⟨rfl, hN, t214⟩; clear h; have h := hN; clear hN; refine ⟨_, rfl, ?_⟩)
  have zt214 := t214.size
  replace gw := gw.kept t214 ⟨by omega, by omega⟩
  refine LL.nil ?_
  refine EE.end _ rfl rfl ?_
  exact ⟨rfl, h, gw⟩
theorem ask_7 (g : Nat) (a : Nat) {c0 c1 c2 c3 c4 c5 c6 c7 c8 c9 c10 c11 : Value} {w : World} (h : RowL w g 56 [c0, c1, c2, c3, c4, c5, c6, c7, c8, c9, c10, c11]) (ha : a ≤ 1048576) : Calls Try.prog 67 #[.pointer (some ⟨g, 0, none⟩), .int .i64 (a : Int), .int .i64 7] w fun e w' => e = .returned (.tuple #[]) ∧ RowL w' g 56 [c0, c1, .int .i64 (a : Int), c3, c4, .int .i64 (2 * (a : Int) - 1), c6, c7, c8, c9, .int .i64 7, .func (.func 63) #[.pointer (some ⟨g, 0, none⟩)] #[]] ∧ Kept (fun j => j < w.heap.size ∧ j ≠ g) w w' := by
  have gw := Gw.refl g w
  refine X.fn Try.func67 rfl (n := 41) rfl rfl ?_
  refine CC.seq ?_
  refine CC.region ?_
  refine LL.val (R.move rfl rfl) rfl rfl rfl ?_
  refine LL.val (R.move rfl rfl) rfl rfl rfl ?_
  refine LL.val (R.nil rfl rfl) rfl rfl rfl ?_
  refine LL.val (R.field rfl rfl (I.fld rfl)) rfl rfl rfl ?_
  refine LL.store rfl rfl rfl rfl h (by exact Nat.le_of_ble_eq_true rfl) rfl rfl rfl rfl ?_
  intro W37 r38 b36 z39
  have hlb36 := h.lt
  replace r38 : RowL W37 _ 56 [c0, c1, Value.int IntKind.i64 ↑a, c3, c4, c5, c6, c7, c8, c9, c10, c11] := r38
  clear h
  replace gw := gw.gr b36 (by omega)
  have h := r38
  clear r38
  refine LL.nilS ?_
  refine CC.seq ?_
  refine CC.seq ?_
  refine CC.region ?_
  refine LL.val (R.move rfl rfl) rfl rfl rfl ?_
  refine LL.nilS ?_
  refine CC.block ?_
  refine CC.seq ?_
  refine CC.seq ?_
  refine CC.region ?_
  refine LL.val (R.eqF rfl rfl rfl (by omega)) rfl rfl rfl ?_
  refine LL.val (R.assign rfl rfl) rfl rfl rfl ?_
  refine LL.nilS ?_
  refine CC.no rfl ?_
  refine CC.seq ?_
  refine CC.region ?_
  refine LL.val (R.eqF rfl rfl rfl (by omega)) rfl rfl rfl ?_
  refine LL.val (R.assign rfl rfl) rfl rfl rfl ?_
  refine LL.nilS ?_
  refine CC.no rfl ?_
  refine CC.seq ?_
  refine CC.region ?_
  refine LL.val (R.eqF rfl rfl rfl (by omega)) rfl rfl rfl ?_
  refine LL.val (R.assign rfl rfl) rfl rfl rfl ?_
  refine LL.nilS ?_
  refine CC.no rfl ?_
  refine CC.region ?_
  refine LL.val (R.eqF rfl rfl rfl (by omega)) rfl rfl rfl ?_
  refine LL.val (R.assign rfl rfl) rfl rfl rfl ?_
  refine LL.nilS ?_
  refine CC.no rfl ?_
  refine CC.seq ?_
  refine CC.seq ?_
  refine CC.region ?_
  refine LL.val (R.eqF rfl rfl rfl (by omega)) rfl rfl rfl ?_
  refine LL.val (R.assign rfl rfl) rfl rfl rfl ?_
  refine LL.nilS ?_
  refine CC.no rfl ?_
  refine CC.seq ?_
  refine CC.region ?_
  refine LL.val (R.eqF rfl rfl rfl (by omega)) rfl rfl rfl ?_
  refine LL.val (R.assign rfl rfl) rfl rfl rfl ?_
  refine LL.nilS ?_
  refine CC.no rfl ?_
  refine CC.region ?_
  refine LL.val (R.eqF rfl rfl rfl (by omega)) rfl rfl rfl ?_
  refine LL.val (R.assign rfl rfl) rfl rfl rfl ?_
  refine LL.nilS ?_
  refine CC.no rfl ?_
  refine CC.region ?_
  refine LL.val (R.move rfl rfl) rfl rfl rfl ?_
  refine LL.val (R.move rfl rfl) rfl rfl rfl ?_
  refine LL.val (R.mulcN rfl rfl rfl rfl (by omega)) rfl rfl rfl ?_
  refine LL.val (R.subI rfl rfl rfl (by omega)) rfl rfl rfl ?_
  refine LL.val (R.max rfl rfl) rfl rfl rfl ?_
  refine LL.val (R.nil rfl rfl) rfl rfl rfl ?_
  refine LL.val (R.field rfl rfl (I.fld rfl)) rfl rfl rfl ?_
  refine LL.store rfl rfl rfl rfl h (by exact Nat.le_of_ble_eq_true rfl) rfl rfl rfl rfl ?_
  intro W202 r203 b201 z204
  have hlb201 := h.lt
  clear h
  replace gw := gw.gr b201 (by omega)
  have h := r203
  clear r203
  refine LL.nil ?_
  refine EE.inN ?_
  refine EE.thenN ?_
  refine CC.region ?_
  refine LL.val (R.move rfl rfl) rfl rfl rfl ?_
  refine LL.val (R.move rfl rfl) rfl rfl rfl ?_
  (refine LL.call (R.call rfl rfl rfl) rfl rfl rfl (turn_7 g h) ?_; rintro e W222 ⟨rfl, hN, t221⟩; clear h; have h := hN; clear hN; refine ⟨_, rfl, ?_⟩)
  have zt221 := t221.size
  replace gw := gw.kept t221 ⟨by omega, by omega⟩
  refine LL.nil ?_
  refine EE.end _ rfl rfl ?_
  (refine ⟨rfl, row_eq h ?_, gw⟩; simp; omega)
theorem ask_8 (g : Nat) (a : Nat) {c0 c1 c2 c3 c4 c5 c6 c7 c8 c9 c10 c11 : Value} {w : World} (h : RowL w g 56 [c0, c1, c2, c3, c4, c5, c6, c7, c8, c9, c10, c11]) (ha : a ≤ 1048576) : Calls Try.prog 67 #[.pointer (some ⟨g, 0, none⟩), .int .i64 (a : Int), .int .i64 8] w fun e w' => e = .returned (.tuple #[]) ∧ RowL w' g 56 [c0, c1, .int .i64 (a : Int), c3, c4, .int .i64 ((2 * a : Nat) : Int), c6, c7, c8, c9, .int .i64 8, .func (.func 64) #[.pointer (some ⟨g, 0, none⟩)] #[]] ∧ Kept (fun j => j < w.heap.size ∧ j ≠ g) w w' := by
  have gw := Gw.refl g w
  refine X.fn Try.func67 rfl (n := 41) rfl rfl ?_
  refine CC.seq ?_
  refine CC.region ?_
  refine LL.val (R.move rfl rfl) rfl rfl rfl ?_
  refine LL.val (R.move rfl rfl) rfl rfl rfl ?_
  refine LL.val (R.nil rfl rfl) rfl rfl rfl ?_
  refine LL.val (R.field rfl rfl (I.fld rfl)) rfl rfl rfl ?_
  refine LL.store rfl rfl rfl rfl h (by exact Nat.le_of_ble_eq_true rfl) rfl rfl rfl rfl ?_
  intro W37 r38 b36 z39
  have hlb36 := h.lt
  replace r38 : RowL W37 _ 56 [c0, c1, Value.int IntKind.i64 ↑a, c3, c4, c5, c6, c7, c8, c9, c10, c11] := r38
  clear h
  replace gw := gw.gr b36 (by omega)
  have h := r38
  clear r38
  refine LL.nilS ?_
  refine CC.seq ?_
  refine CC.seq ?_
  refine CC.region ?_
  refine LL.val (R.move rfl rfl) rfl rfl rfl ?_
  refine LL.nilS ?_
  refine CC.block ?_
  refine CC.seq ?_
  refine CC.seq ?_
  refine CC.region ?_
  refine LL.val (R.eqF rfl rfl rfl (by omega)) rfl rfl rfl ?_
  refine LL.val (R.assign rfl rfl) rfl rfl rfl ?_
  refine LL.nilS ?_
  refine CC.no rfl ?_
  refine CC.seq ?_
  refine CC.region ?_
  refine LL.val (R.eqF rfl rfl rfl (by omega)) rfl rfl rfl ?_
  refine LL.val (R.assign rfl rfl) rfl rfl rfl ?_
  refine LL.nilS ?_
  refine CC.no rfl ?_
  refine CC.seq ?_
  refine CC.region ?_
  refine LL.val (R.eqF rfl rfl rfl (by omega)) rfl rfl rfl ?_
  refine LL.val (R.assign rfl rfl) rfl rfl rfl ?_
  refine LL.nilS ?_
  refine CC.no rfl ?_
  refine CC.region ?_
  refine LL.val (R.eqT rfl rfl rfl (by omega)) rfl rfl rfl ?_
  refine LL.val (R.assign rfl rfl) rfl rfl rfl ?_
  refine LL.nilS ?_
  refine CC.yes rfl ?_
  refine CC.region ?_
  refine LL.val (R.move rfl rfl) rfl rfl rfl ?_
  refine LL.val (R.move rfl rfl) rfl rfl rfl ?_
  refine LL.val (R.mulcN rfl rfl rfl rfl (by omega)) rfl rfl rfl ?_
  refine LL.val (R.nil rfl rfl) rfl rfl rfl ?_
  refine LL.val (R.field rfl rfl (I.fld rfl)) rfl rfl rfl ?_
  refine LL.store rfl rfl rfl rfl h (by exact Nat.le_of_ble_eq_true rfl) rfl rfl rfl rfl ?_
  intro W146 r147 b145 z148
  have hlb145 := h.lt
  replace r147 : RowL W146 _ 56 [c0, c1, Value.int IntKind.i64 ↑a, c3, c4, Value.int IntKind.i64 ↑(2 * a), c6, c7, c8, c9, c10, c11] := r147
  clear h
  replace gw := gw.gr b145 (by omega)
  have h := r147
  clear r147
  refine LL.nil ?_
  refine EE.inN ?_
  refine EE.thenN ?_
  refine CC.region ?_
  refine LL.val (R.move rfl rfl) rfl rfl rfl ?_
  refine LL.val (R.move rfl rfl) rfl rfl rfl ?_
  (refine LL.call (R.call rfl rfl rfl) rfl rfl rfl (turn_8 g h) ?_; rintro e W166 ⟨rfl, hN, t165⟩; clear h; have h := hN; clear hN; refine ⟨_, rfl, ?_⟩)
  have zt165 := t165.size
  replace gw := gw.kept t165 ⟨by omega, by omega⟩
  refine LL.nil ?_
  refine EE.end _ rfl rfl ?_
  exact ⟨rfl, h, gw⟩
theorem end_any (g : Nat) (p : Nat) (b : Bool) {c0 c1 c2 c3 c4 c5 c6 c7 c8 c9 c10 c11 : Value} {w : World} (h : RowL w g 56 [c0, c1, c2, c3, c4, c5, c6, c7, c8, c9, c10, c11]) : Calls Try.prog 68 #[.pointer (some ⟨g, 0, none⟩), .int .u64 (p : Int), .bool b] w fun e w' => e = .returned (.tuple #[]) ∧ RowL w' g 56 [c0, c1, c2, c3, c4, c5, c6, .int .u64 (p : Int), .bool b, .bool true, c10, c11] ∧ Kept (fun j => j < w.heap.size ∧ j ≠ g) w w' := by
  have gw := Gw.refl g w
  refine X.fn Try.func68 rfl (n := 17) rfl rfl ?_
  refine CC.region ?_
  refine LL.val (R.move rfl rfl) rfl rfl rfl ?_
  refine LL.val (R.move rfl rfl) rfl rfl rfl ?_
  refine LL.val (R.move rfl rfl) rfl rfl rfl ?_
  refine LL.val (R.move rfl rfl) rfl rfl rfl ?_
  refine LL.val (R.move rfl rfl) rfl rfl rfl ?_
  refine LL.val (R.nil rfl rfl) rfl rfl rfl ?_
  refine LL.val (R.field rfl rfl (I.fld rfl)) rfl rfl rfl ?_
  refine LL.store rfl rfl rfl rfl h (by exact Nat.le_of_ble_eq_true rfl) rfl rfl rfl rfl ?_
  intro W2 r3 b1 z4
  have hlb1 := h.lt
  replace r3 : RowL W2 _ 56 [c0, c1, c2, c3, c4, c5, c6, Value.int IntKind.u64 ↑p, c8, c9, c10, c11] := r3
  clear h
  replace gw := gw.gr b1 (by omega)
  have h := r3
  clear r3
  refine LL.val (R.nil rfl rfl) rfl rfl rfl ?_
  refine LL.val (R.field rfl rfl (I.fld rfl)) rfl rfl rfl ?_
  refine LL.store rfl rfl rfl rfl h (by exact Nat.le_of_ble_eq_true rfl) rfl rfl rfl rfl ?_
  intro W6 r7 b5 z8
  have hlb5 := h.lt
  replace r7 : RowL W6 _ 56 [c0, c1, c2, c3, c4, c5, c6, Value.int IntKind.u64 ↑p, Value.bool b, c9, c10, c11] := r7
  clear h
  replace gw := gw.gr b5 (by omega)
  have h := r7
  clear r7
  refine LL.val (R.nil rfl rfl) rfl rfl rfl ?_
  refine LL.val (R.field rfl rfl (I.fld rfl)) rfl rfl rfl ?_
  refine LL.store rfl rfl rfl rfl h (by exact Nat.le_of_ble_eq_true rfl) rfl rfl rfl rfl ?_
  intro W10 r11 b9 z12
  have hlb9 := h.lt
  replace r11 : RowL W10 _ 56 [c0, c1, c2, c3, c4, c5, c6, Value.int IntKind.u64 ↑p, Value.bool b, Value.bool true, c10, c11] := r11
  clear h
  replace gw := gw.gr b9 (by omega)
  have h := r11
  clear r11
  refine LL.nil ?_
  refine EE.end _ rfl rfl ?_
  exact ⟨rfl, h, gw⟩
end Go.Proofs.Ytloflmkolnediaa

/- scan: what a reader does with what it is given; Give (gen1.py writes this). -/
namespace Go.Proofs.Ytloflmkolnediaa
set_option linter.unusedVariables false
set_option linter.unusedSimpArgs false
open Go.RowKit Go.Shelf
/-- A reader: what it looks for, in how many slots, where it stands, what it loaded, how many words; what it found; its step. -/
structure Rd where
  key : Nat
  slots : Nat
  slot : Nat
  ahead : Nat
  ptr : Nat
  loads : Nat
  found : Nat
  is : Bool
  dn : Bool
  k : Nat
def wantI (k a : Nat) : Int := match k with
  | 0 | 3 | 5 | 8 => ((2 * a : Nat) : Int)
  | 2 | 4 | 6 => ((2 * a + 1 : Nat) : Int)
  | _ => 2 * (a : Int) - 1
def nxV (g k : Nat) : Value := match k with
  | 0 => .func (.func 56) #[.pointer (some ⟨g, 0, none⟩)] #[]
  | 1 => .func (.func 57) #[.pointer (some ⟨g, 0, none⟩)] #[]
  | 2 => .func (.func 58) #[.pointer (some ⟨g, 0, none⟩)] #[]
  | 3 => .func (.func 59) #[.pointer (some ⟨g, 0, none⟩)] #[]
  | 4 => .func (.func 60) #[.pointer (some ⟨g, 0, none⟩)] #[]
  | 5 => .func (.func 61) #[.pointer (some ⟨g, 0, none⟩)] #[]
  | 6 => .func (.func 62) #[.pointer (some ⟨g, 0, none⟩)] #[]
  | 7 => .func (.func 63) #[.pointer (some ⟨g, 0, none⟩)] #[]
  | _ => .func (.func 64) #[.pointer (some ⟨g, 0, none⟩)] #[]
def rdR (g : Nat) (r : Rd) : List Value := [.int .u64 (r.key : Int), .int .i64 (r.slots : Int), .int .i64 (r.slot : Int), .int .u64 (r.ahead : Int), .int .u64 (r.ptr : Int), .int .i64 (wantI r.k r.slot), .int .i64 (r.loads : Int), .int .u64 (r.found : Int), .bool r.is, .bool r.dn, .int .i64 (r.k : Int), nxV g r.k]
def endR (r : Rd) (p : Nat) (b : Bool) : Rd := { r with found := p, is := b, dn := true }
def upOnR (r : Rd) (v : Nat) : Rd := if v = 0 ∨ r.slot + 1 = r.slots then endR r 0 false else { r with slot := r.slot + 1, k := 0 }
def downOnR (r : Rd) : Rd := if r.slot = 0 then endR r 0 false else { r with slot := r.slot - 1, k := 5 }
def gotR (r : Rd) (v : Nat) : Rd := match r.k with
  | 0 => if v = r.key then { r with k := 1 } else { r with k := 4 }
  | 1 => { r with ahead := v, k := 2 }
  | 2 => { r with ptr := v, k := 3 }
  | 3 => if v = r.key ∧ r.ptr ≠ 0 ∧ r.ptr ≠ r.ahead then endR r r.ptr true else upOnR r r.ptr
  | 4 => upOnR r v
  | 5 => if v = r.key then { r with k := 6 } else downOnR r
  | 6 => if v ≠ 0 then { r with ptr := v, k := 7 } else downOnR { r with ptr := v }
  | 7 => { r with ahead := v, k := 8 }
  | _ => if v = r.key ∧ r.ptr ≠ r.ahead then endR r r.ptr true else downOnR r
def giveR (r : Rd) (v : Nat) : Rd := gotR { r with loads := r.loads + 1 } v
set_option maxRecDepth 100000
set_option maxHeartbeats 4000000
theorem upOn_3 (g : Nat) (v : Nat) {key slots slot ahead ptr loads found : Nat} {is dn : Bool} {w : World} (h : RowL w g 56 [.int .u64 (key : Int), .int .i64 (slots : Int), .int .i64 (slot : Int), .int .u64 (ahead : Int), .int .u64 (ptr : Int), .int .i64 ((2 * slot : Nat) : Int), .int .i64 (loads : Int), .int .u64 (found : Int), .bool is, .bool dn, .int .i64 3, .func (.func 59) #[.pointer (some ⟨g, 0, none⟩)] #[]]) (hs : slot < slots) (hS : slots ≤ 28) : Calls Try.prog 60 #[.pointer (some ⟨g, 0, none⟩), .int .u64 (v : Int)] w fun e w' => e = .returned (.tuple #[]) ∧ RowL w' g 56 (rdR g (upOnR ⟨key, slots, slot, ahead, ptr, loads, found, is, dn, 3⟩ v)) ∧ Kept (fun j => j < w.heap.size ∧ j ≠ g) w w' := by
  have gw := Gw.refl g w
  by_cases h0 : v = 0
  · rw [show upOnR ⟨key, slots, slot, ahead, ptr, loads, found, is, dn, 3⟩ v = endR ⟨key, slots, slot, ahead, ptr, loads, found, is, dn, 3⟩ 0 false from if_pos (.inl h0)]
    subst h0
    refine X.fn Try.func60 rfl (n := 28) rfl rfl ?_
    refine CC.seq ?_
    refine CC.quietB (by kernel_rfl) (by kernel_rfl) (fun W2 b1 z3 => ?_)
    replace h := h.up b1
    replace gw := gw.up b1
    refine SS.val (R.move rfl rfl) rfl rfl ?_
    refine SS.val (R.eqT rfl rfl rfl (by omega)) rfl rfl ?_
    refine SS.val (R.move rfl rfl) rfl rfl ?_
    refine SS.skip rfl rfl ?_
    refine SS.skip rfl rfl ?_
    refine SS.skip rfl rfl ?_
    refine SS.skip rfl rfl ?_
    refine SS.skip rfl rfl ?_
    refine SS.skip rfl rfl ?_
    refine SS.skip rfl rfl ?_
    refine SS.skip rfl rfl ?_
    refine SS.skip rfl rfl ?_
    refine SS.skip rfl rfl ?_
    refine SS.skip rfl rfl ?_
    refine SS.val (R.pick rfl rfl rfl) rfl rfl ?_
    refine SS.nilQ ?_
    refine EE.thenN ?_
    refine CC.yes rfl ?_
    refine CC.region ?_
    refine LL.val (R.move rfl rfl) rfl rfl rfl ?_
    (refine LL.call (R.call rfl rfl rfl) rfl rfl rfl (end_any g 0 false h) ?_; rintro e W42 ⟨rfl, hN, t41⟩; clear h; have h := hN; clear hN; refine ⟨_, rfl, ?_⟩)
    have zt41 := t41.size
    replace gw := gw.kept t41 ⟨by omega, by omega⟩
    refine LL.nil ?_
    refine EE.end _ rfl rfl ?_
    exact ⟨rfl, h, gw⟩
  by_cases h1 : slot + 1 = slots
  · rw [show upOnR ⟨key, slots, slot, ahead, ptr, loads, found, is, dn, 3⟩ v = endR ⟨key, slots, slot, ahead, ptr, loads, found, is, dn, 3⟩ 0 false from if_pos (.inr h1)]
    refine X.fn Try.func60 rfl (n := 28) rfl rfl ?_
    refine CC.seq ?_
    refine CC.quietB (by kernel_rfl) (by kernel_rfl) (fun Wa2 ba1 za3 => ?_)
    replace h := h.up ba1
    replace gw := gw.up ba1
    refine SS.val (R.move rfl rfl) rfl rfl ?_
    refine SS.val (R.eqF rfl rfl rfl (by omega)) rfl rfl ?_
    refine SS.val (R.move rfl rfl) rfl rfl ?_
    refine SS.val (R.move rfl rfl) rfl rfl ?_
    refine SS.val (R.nil rfl rfl) rfl rfl ?_
    refine SS.val (R.field rfl rfl (I.fld rfl)) rfl rfl ?_
    refine SS.val (R.load rfl rfl (I.ld1 rfl (RowL.cell h rfl))) rfl rfl ?_
    refine SS.val (R.move rfl rfl) rfl rfl ?_
    refine SS.val (R.nil rfl rfl) rfl rfl ?_
    refine SS.val (R.field rfl rfl (I.fld rfl)) rfl rfl ?_
    refine SS.val (R.field rfl rfl (I.fld rfl)) rfl rfl ?_
    refine SS.val (R.load rfl rfl (I.ld1 rfl (RowL.cell h rfl))) rfl rfl ?_
    refine SS.val (R.subNc rfl rfl rfl rfl (by omega) (by omega)) rfl rfl ?_
    refine SS.val (R.eqT rfl rfl rfl (by omega)) rfl rfl ?_
    refine SS.val (R.pick rfl rfl rfl) rfl rfl ?_
    refine SS.nilQ ?_
    refine EE.thenN ?_
    refine CC.yes rfl ?_
    refine CC.region ?_
    refine LL.val (R.move rfl rfl) rfl rfl rfl ?_
    (refine LL.call (R.call rfl rfl rfl) rfl rfl rfl (end_any g 0 false h) ?_; rintro e Wa119 ⟨rfl, hN, ta118⟩; clear h; have h := hN; clear hN; refine ⟨_, rfl, ?_⟩)
    have zta118 := ta118.size
    replace gw := gw.kept ta118 ⟨by omega, by omega⟩
    refine LL.nil ?_
    refine EE.end _ rfl rfl ?_
    exact ⟨rfl, h, gw⟩
  · rw [show upOnR ⟨key, slots, slot, ahead, ptr, loads, found, is, dn, 3⟩ v = ⟨key, slots, slot + 1, ahead, ptr, loads, found, is, dn, 0⟩ from if_neg (fun e => e.elim h0 h1)]
    refine X.fn Try.func60 rfl (n := 28) rfl rfl ?_
    refine CC.seq ?_
    refine CC.quietB (by kernel_rfl) (by kernel_rfl) (fun Wb2 bb1 zb3 => ?_)
    replace h := h.up bb1
    replace gw := gw.up bb1
    refine SS.val (R.move rfl rfl) rfl rfl ?_
    refine SS.val (R.eqF rfl rfl rfl (by omega)) rfl rfl ?_
    refine SS.val (R.move rfl rfl) rfl rfl ?_
    refine SS.val (R.move rfl rfl) rfl rfl ?_
    refine SS.val (R.nil rfl rfl) rfl rfl ?_
    refine SS.val (R.field rfl rfl (I.fld rfl)) rfl rfl ?_
    refine SS.val (R.load rfl rfl (I.ld1 rfl (RowL.cell h rfl))) rfl rfl ?_
    refine SS.val (R.move rfl rfl) rfl rfl ?_
    refine SS.val (R.nil rfl rfl) rfl rfl ?_
    refine SS.val (R.field rfl rfl (I.fld rfl)) rfl rfl ?_
    refine SS.val (R.field rfl rfl (I.fld rfl)) rfl rfl ?_
    refine SS.val (R.load rfl rfl (I.ld1 rfl (RowL.cell h rfl))) rfl rfl ?_
    refine SS.val (R.subNc rfl rfl rfl rfl (by omega) (by omega)) rfl rfl ?_
    refine SS.val (R.eqF rfl rfl rfl (by omega)) rfl rfl ?_
    refine SS.val (R.pick rfl rfl rfl) rfl rfl ?_
    refine SS.nilQ ?_
    refine EE.thenN ?_
    refine CC.no rfl ?_
    refine CC.region ?_
    refine LL.val (R.move rfl rfl) rfl rfl rfl ?_
    refine LL.val (R.move rfl rfl) rfl rfl rfl ?_
    refine LL.val (R.nil rfl rfl) rfl rfl rfl ?_
    refine LL.val (R.field rfl rfl (I.fld rfl)) rfl rfl rfl ?_
    refine LL.val (R.load rfl rfl (I.ld1 rfl (RowL.cell h rfl))) rfl rfl rfl ?_
    refine LL.val (R.addNc rfl rfl rfl rfl (by omega)) rfl rfl rfl ?_
    (refine LL.call (R.call rfl rfl rfl) rfl rfl rfl (ask_0 g (slot + 1) h (by omega)) ?_; rintro e Wb154 ⟨rfl, hN, tb153⟩; clear h; have h := hN; clear hN; refine ⟨_, rfl, ?_⟩)
    have ztb153 := tb153.size
    replace gw := gw.kept tb153 ⟨by omega, by omega⟩
    refine LL.nil ?_
    refine EE.end _ rfl rfl ?_
    exact ⟨rfl, h, gw⟩
theorem upOn_4 (g : Nat) (v : Nat) {key slots slot ahead ptr loads found : Nat} {is dn : Bool} {w : World} (h : RowL w g 56 [.int .u64 (key : Int), .int .i64 (slots : Int), .int .i64 (slot : Int), .int .u64 (ahead : Int), .int .u64 (ptr : Int), .int .i64 ((2 * slot + 1 : Nat) : Int), .int .i64 (loads : Int), .int .u64 (found : Int), .bool is, .bool dn, .int .i64 4, .func (.func 60) #[.pointer (some ⟨g, 0, none⟩)] #[]]) (hs : slot < slots) (hS : slots ≤ 28) : Calls Try.prog 60 #[.pointer (some ⟨g, 0, none⟩), .int .u64 (v : Int)] w fun e w' => e = .returned (.tuple #[]) ∧ RowL w' g 56 (rdR g (upOnR ⟨key, slots, slot, ahead, ptr, loads, found, is, dn, 4⟩ v)) ∧ Kept (fun j => j < w.heap.size ∧ j ≠ g) w w' := by
  have gw := Gw.refl g w
  by_cases h0 : v = 0
  · rw [show upOnR ⟨key, slots, slot, ahead, ptr, loads, found, is, dn, 4⟩ v = endR ⟨key, slots, slot, ahead, ptr, loads, found, is, dn, 4⟩ 0 false from if_pos (.inl h0)]
    subst h0
    refine X.fn Try.func60 rfl (n := 28) rfl rfl ?_
    refine CC.seq ?_
    refine CC.quietB (by kernel_rfl) (by kernel_rfl) (fun W2 b1 z3 => ?_)
    replace h := h.up b1
    replace gw := gw.up b1
    refine SS.val (R.move rfl rfl) rfl rfl ?_
    refine SS.val (R.eqT rfl rfl rfl (by omega)) rfl rfl ?_
    refine SS.val (R.move rfl rfl) rfl rfl ?_
    refine SS.skip rfl rfl ?_
    refine SS.skip rfl rfl ?_
    refine SS.skip rfl rfl ?_
    refine SS.skip rfl rfl ?_
    refine SS.skip rfl rfl ?_
    refine SS.skip rfl rfl ?_
    refine SS.skip rfl rfl ?_
    refine SS.skip rfl rfl ?_
    refine SS.skip rfl rfl ?_
    refine SS.skip rfl rfl ?_
    refine SS.skip rfl rfl ?_
    refine SS.val (R.pick rfl rfl rfl) rfl rfl ?_
    refine SS.nilQ ?_
    refine EE.thenN ?_
    refine CC.yes rfl ?_
    refine CC.region ?_
    refine LL.val (R.move rfl rfl) rfl rfl rfl ?_
    (refine LL.call (R.call rfl rfl rfl) rfl rfl rfl (end_any g 0 false h) ?_; rintro e W42 ⟨rfl, hN, t41⟩; clear h; have h := hN; clear hN; refine ⟨_, rfl, ?_⟩)
    have zt41 := t41.size
    replace gw := gw.kept t41 ⟨by omega, by omega⟩
    refine LL.nil ?_
    refine EE.end _ rfl rfl ?_
    exact ⟨rfl, h, gw⟩
  by_cases h1 : slot + 1 = slots
  · rw [show upOnR ⟨key, slots, slot, ahead, ptr, loads, found, is, dn, 4⟩ v = endR ⟨key, slots, slot, ahead, ptr, loads, found, is, dn, 4⟩ 0 false from if_pos (.inr h1)]
    refine X.fn Try.func60 rfl (n := 28) rfl rfl ?_
    refine CC.seq ?_
    refine CC.quietB (by kernel_rfl) (by kernel_rfl) (fun Wa2 ba1 za3 => ?_)
    replace h := h.up ba1
    replace gw := gw.up ba1
    refine SS.val (R.move rfl rfl) rfl rfl ?_
    refine SS.val (R.eqF rfl rfl rfl (by omega)) rfl rfl ?_
    refine SS.val (R.move rfl rfl) rfl rfl ?_
    refine SS.val (R.move rfl rfl) rfl rfl ?_
    refine SS.val (R.nil rfl rfl) rfl rfl ?_
    refine SS.val (R.field rfl rfl (I.fld rfl)) rfl rfl ?_
    refine SS.val (R.load rfl rfl (I.ld1 rfl (RowL.cell h rfl))) rfl rfl ?_
    refine SS.val (R.move rfl rfl) rfl rfl ?_
    refine SS.val (R.nil rfl rfl) rfl rfl ?_
    refine SS.val (R.field rfl rfl (I.fld rfl)) rfl rfl ?_
    refine SS.val (R.field rfl rfl (I.fld rfl)) rfl rfl ?_
    refine SS.val (R.load rfl rfl (I.ld1 rfl (RowL.cell h rfl))) rfl rfl ?_
    refine SS.val (R.subNc rfl rfl rfl rfl (by omega) (by omega)) rfl rfl ?_
    refine SS.val (R.eqT rfl rfl rfl (by omega)) rfl rfl ?_
    refine SS.val (R.pick rfl rfl rfl) rfl rfl ?_
    refine SS.nilQ ?_
    refine EE.thenN ?_
    refine CC.yes rfl ?_
    refine CC.region ?_
    refine LL.val (R.move rfl rfl) rfl rfl rfl ?_
    (refine LL.call (R.call rfl rfl rfl) rfl rfl rfl (end_any g 0 false h) ?_; rintro e Wa119 ⟨rfl, hN, ta118⟩; clear h; have h := hN; clear hN; refine ⟨_, rfl, ?_⟩)
    have zta118 := ta118.size
    replace gw := gw.kept ta118 ⟨by omega, by omega⟩
    refine LL.nil ?_
    refine EE.end _ rfl rfl ?_
    exact ⟨rfl, h, gw⟩
  · rw [show upOnR ⟨key, slots, slot, ahead, ptr, loads, found, is, dn, 4⟩ v = ⟨key, slots, slot + 1, ahead, ptr, loads, found, is, dn, 0⟩ from if_neg (fun e => e.elim h0 h1)]
    refine X.fn Try.func60 rfl (n := 28) rfl rfl ?_
    refine CC.seq ?_
    refine CC.quietB (by kernel_rfl) (by kernel_rfl) (fun Wb2 bb1 zb3 => ?_)
    replace h := h.up bb1
    replace gw := gw.up bb1
    refine SS.val (R.move rfl rfl) rfl rfl ?_
    refine SS.val (R.eqF rfl rfl rfl (by omega)) rfl rfl ?_
    refine SS.val (R.move rfl rfl) rfl rfl ?_
    refine SS.val (R.move rfl rfl) rfl rfl ?_
    refine SS.val (R.nil rfl rfl) rfl rfl ?_
    refine SS.val (R.field rfl rfl (I.fld rfl)) rfl rfl ?_
    refine SS.val (R.load rfl rfl (I.ld1 rfl (RowL.cell h rfl))) rfl rfl ?_
    refine SS.val (R.move rfl rfl) rfl rfl ?_
    refine SS.val (R.nil rfl rfl) rfl rfl ?_
    refine SS.val (R.field rfl rfl (I.fld rfl)) rfl rfl ?_
    refine SS.val (R.field rfl rfl (I.fld rfl)) rfl rfl ?_
    refine SS.val (R.load rfl rfl (I.ld1 rfl (RowL.cell h rfl))) rfl rfl ?_
    refine SS.val (R.subNc rfl rfl rfl rfl (by omega) (by omega)) rfl rfl ?_
    refine SS.val (R.eqF rfl rfl rfl (by omega)) rfl rfl ?_
    refine SS.val (R.pick rfl rfl rfl) rfl rfl ?_
    refine SS.nilQ ?_
    refine EE.thenN ?_
    refine CC.no rfl ?_
    refine CC.region ?_
    refine LL.val (R.move rfl rfl) rfl rfl rfl ?_
    refine LL.val (R.move rfl rfl) rfl rfl rfl ?_
    refine LL.val (R.nil rfl rfl) rfl rfl rfl ?_
    refine LL.val (R.field rfl rfl (I.fld rfl)) rfl rfl rfl ?_
    refine LL.val (R.load rfl rfl (I.ld1 rfl (RowL.cell h rfl))) rfl rfl rfl ?_
    refine LL.val (R.addNc rfl rfl rfl rfl (by omega)) rfl rfl rfl ?_
    (refine LL.call (R.call rfl rfl rfl) rfl rfl rfl (ask_0 g (slot + 1) h (by omega)) ?_; rintro e Wb154 ⟨rfl, hN, tb153⟩; clear h; have h := hN; clear hN; refine ⟨_, rfl, ?_⟩)
    have ztb153 := tb153.size
    replace gw := gw.kept tb153 ⟨by omega, by omega⟩
    refine LL.nil ?_
    refine EE.end _ rfl rfl ?_
    exact ⟨rfl, h, gw⟩
theorem downOn_5 (g : Nat)  {key slots slot ahead ptr loads found : Nat} {is dn : Bool} {w : World} (h : RowL w g 56 [.int .u64 (key : Int), .int .i64 (slots : Int), .int .i64 (slot : Int), .int .u64 (ahead : Int), .int .u64 (ptr : Int), .int .i64 ((2 * slot : Nat) : Int), .int .i64 (loads : Int), .int .u64 (found : Int), .bool is, .bool dn, .int .i64 5, .func (.func 61) #[.pointer (some ⟨g, 0, none⟩)] #[]]) (hs : slot < slots) (hS : slots ≤ 28) : Calls Try.prog 69 #[.pointer (some ⟨g, 0, none⟩)] w fun e w' => e = .returned (.tuple #[]) ∧ RowL w' g 56 (rdR g (downOnR ⟨key, slots, slot, ahead, ptr, loads, found, is, dn, 5⟩)) ∧ Kept (fun j => j < w.heap.size ∧ j ≠ g) w w' := by
  have gw := Gw.refl g w
  by_cases h0 : slot = 0
  · rw [show downOnR ⟨key, slots, slot, ahead, ptr, loads, found, is, dn, 5⟩ = endR ⟨key, slots, slot, ahead, ptr, loads, found, is, dn, 5⟩ 0 false from if_pos h0]
    refine X.fn Try.func69 rfl (n := 16) rfl rfl ?_
    refine CC.seq ?_
    refine CC.region ?_
    refine LL.val (R.move rfl rfl) rfl rfl rfl ?_
    refine LL.val (R.nil rfl rfl) rfl rfl rfl ?_
    refine LL.val (R.field rfl rfl (I.fld rfl)) rfl rfl rfl ?_
    refine LL.val (R.load rfl rfl (I.ld1 rfl (RowL.cell h rfl))) rfl rfl rfl ?_
    refine LL.val (R.eqT rfl rfl rfl (by omega)) rfl rfl rfl ?_
    refine LL.nilS ?_
    refine CC.yes rfl ?_
    refine CC.region ?_
    refine LL.val (R.move rfl rfl) rfl rfl rfl ?_
    (refine LL.call (R.call rfl rfl rfl) rfl rfl rfl (end_any g 0 false h) ?_; rintro e W46 ⟨rfl, hN, t45⟩; clear h; have h := hN; clear hN; refine ⟨_, rfl, ?_⟩)
    have zt45 := t45.size
    replace gw := gw.kept t45 ⟨by omega, by omega⟩
    refine LL.nil ?_
    refine EE.end _ rfl rfl ?_
    exact ⟨rfl, h, gw⟩
  · rw [show downOnR ⟨key, slots, slot, ahead, ptr, loads, found, is, dn, 5⟩ = ⟨key, slots, slot - 1, ahead, ptr, loads, found, is, dn, 5⟩ from if_neg h0]
    refine X.fn Try.func69 rfl (n := 16) rfl rfl ?_
    refine CC.seq ?_
    refine CC.region ?_
    refine LL.val (R.move rfl rfl) rfl rfl rfl ?_
    refine LL.val (R.nil rfl rfl) rfl rfl rfl ?_
    refine LL.val (R.field rfl rfl (I.fld rfl)) rfl rfl rfl ?_
    refine LL.val (R.load rfl rfl (I.ld1 rfl (RowL.cell h rfl))) rfl rfl rfl ?_
    refine LL.val (R.eqF rfl rfl rfl (by omega)) rfl rfl rfl ?_
    refine LL.nilS ?_
    refine CC.no rfl ?_
    refine CC.region ?_
    refine LL.val (R.move rfl rfl) rfl rfl rfl ?_
    refine LL.val (R.move rfl rfl) rfl rfl rfl ?_
    refine LL.val (R.nil rfl rfl) rfl rfl rfl ?_
    refine LL.val (R.field rfl rfl (I.fld rfl)) rfl rfl rfl ?_
    refine LL.val (R.load rfl rfl (I.ld1 rfl (RowL.cell h rfl))) rfl rfl rfl ?_
    refine LL.val (R.subNc rfl rfl rfl rfl (by omega) (by omega)) rfl rfl rfl ?_
    (refine LL.call (R.call rfl rfl rfl) rfl rfl rfl (ask_5 g (slot - 1) h (by omega)) ?_; rintro e Wa81 ⟨rfl, hN, ta80⟩; clear h; have h := hN; clear hN; refine ⟨_, rfl, ?_⟩)
    have zta80 := ta80.size
    replace gw := gw.kept ta80 ⟨by omega, by omega⟩
    refine LL.nil ?_
    refine EE.end _ rfl rfl ?_
    exact ⟨rfl, h, gw⟩
theorem downOn_6 (g : Nat)  {key slots slot ahead ptr loads found : Nat} {is dn : Bool} {w : World} (h : RowL w g 56 [.int .u64 (key : Int), .int .i64 (slots : Int), .int .i64 (slot : Int), .int .u64 (ahead : Int), .int .u64 (ptr : Int), .int .i64 ((2 * slot + 1 : Nat) : Int), .int .i64 (loads : Int), .int .u64 (found : Int), .bool is, .bool dn, .int .i64 6, .func (.func 62) #[.pointer (some ⟨g, 0, none⟩)] #[]]) (hs : slot < slots) (hS : slots ≤ 28) : Calls Try.prog 69 #[.pointer (some ⟨g, 0, none⟩)] w fun e w' => e = .returned (.tuple #[]) ∧ RowL w' g 56 (rdR g (downOnR ⟨key, slots, slot, ahead, ptr, loads, found, is, dn, 6⟩)) ∧ Kept (fun j => j < w.heap.size ∧ j ≠ g) w w' := by
  have gw := Gw.refl g w
  by_cases h0 : slot = 0
  · rw [show downOnR ⟨key, slots, slot, ahead, ptr, loads, found, is, dn, 6⟩ = endR ⟨key, slots, slot, ahead, ptr, loads, found, is, dn, 6⟩ 0 false from if_pos h0]
    refine X.fn Try.func69 rfl (n := 16) rfl rfl ?_
    refine CC.seq ?_
    refine CC.region ?_
    refine LL.val (R.move rfl rfl) rfl rfl rfl ?_
    refine LL.val (R.nil rfl rfl) rfl rfl rfl ?_
    refine LL.val (R.field rfl rfl (I.fld rfl)) rfl rfl rfl ?_
    refine LL.val (R.load rfl rfl (I.ld1 rfl (RowL.cell h rfl))) rfl rfl rfl ?_
    refine LL.val (R.eqT rfl rfl rfl (by omega)) rfl rfl rfl ?_
    refine LL.nilS ?_
    refine CC.yes rfl ?_
    refine CC.region ?_
    refine LL.val (R.move rfl rfl) rfl rfl rfl ?_
    (refine LL.call (R.call rfl rfl rfl) rfl rfl rfl (end_any g 0 false h) ?_; rintro e W46 ⟨rfl, hN, t45⟩; clear h; have h := hN; clear hN; refine ⟨_, rfl, ?_⟩)
    have zt45 := t45.size
    replace gw := gw.kept t45 ⟨by omega, by omega⟩
    refine LL.nil ?_
    refine EE.end _ rfl rfl ?_
    exact ⟨rfl, h, gw⟩
  · rw [show downOnR ⟨key, slots, slot, ahead, ptr, loads, found, is, dn, 6⟩ = ⟨key, slots, slot - 1, ahead, ptr, loads, found, is, dn, 5⟩ from if_neg h0]
    refine X.fn Try.func69 rfl (n := 16) rfl rfl ?_
    refine CC.seq ?_
    refine CC.region ?_
    refine LL.val (R.move rfl rfl) rfl rfl rfl ?_
    refine LL.val (R.nil rfl rfl) rfl rfl rfl ?_
    refine LL.val (R.field rfl rfl (I.fld rfl)) rfl rfl rfl ?_
    refine LL.val (R.load rfl rfl (I.ld1 rfl (RowL.cell h rfl))) rfl rfl rfl ?_
    refine LL.val (R.eqF rfl rfl rfl (by omega)) rfl rfl rfl ?_
    refine LL.nilS ?_
    refine CC.no rfl ?_
    refine CC.region ?_
    refine LL.val (R.move rfl rfl) rfl rfl rfl ?_
    refine LL.val (R.move rfl rfl) rfl rfl rfl ?_
    refine LL.val (R.nil rfl rfl) rfl rfl rfl ?_
    refine LL.val (R.field rfl rfl (I.fld rfl)) rfl rfl rfl ?_
    refine LL.val (R.load rfl rfl (I.ld1 rfl (RowL.cell h rfl))) rfl rfl rfl ?_
    refine LL.val (R.subNc rfl rfl rfl rfl (by omega) (by omega)) rfl rfl rfl ?_
    (refine LL.call (R.call rfl rfl rfl) rfl rfl rfl (ask_5 g (slot - 1) h (by omega)) ?_; rintro e Wa81 ⟨rfl, hN, ta80⟩; clear h; have h := hN; clear hN; refine ⟨_, rfl, ?_⟩)
    have zta80 := ta80.size
    replace gw := gw.kept ta80 ⟨by omega, by omega⟩
    refine LL.nil ?_
    refine EE.end _ rfl rfl ?_
    exact ⟨rfl, h, gw⟩
theorem downOn_8 (g : Nat)  {key slots slot ahead ptr loads found : Nat} {is dn : Bool} {w : World} (h : RowL w g 56 [.int .u64 (key : Int), .int .i64 (slots : Int), .int .i64 (slot : Int), .int .u64 (ahead : Int), .int .u64 (ptr : Int), .int .i64 ((2 * slot : Nat) : Int), .int .i64 (loads : Int), .int .u64 (found : Int), .bool is, .bool dn, .int .i64 8, .func (.func 64) #[.pointer (some ⟨g, 0, none⟩)] #[]]) (hs : slot < slots) (hS : slots ≤ 28) : Calls Try.prog 69 #[.pointer (some ⟨g, 0, none⟩)] w fun e w' => e = .returned (.tuple #[]) ∧ RowL w' g 56 (rdR g (downOnR ⟨key, slots, slot, ahead, ptr, loads, found, is, dn, 8⟩)) ∧ Kept (fun j => j < w.heap.size ∧ j ≠ g) w w' := by
  have gw := Gw.refl g w
  by_cases h0 : slot = 0
  · rw [show downOnR ⟨key, slots, slot, ahead, ptr, loads, found, is, dn, 8⟩ = endR ⟨key, slots, slot, ahead, ptr, loads, found, is, dn, 8⟩ 0 false from if_pos h0]
    refine X.fn Try.func69 rfl (n := 16) rfl rfl ?_
    refine CC.seq ?_
    refine CC.region ?_
    refine LL.val (R.move rfl rfl) rfl rfl rfl ?_
    refine LL.val (R.nil rfl rfl) rfl rfl rfl ?_
    refine LL.val (R.field rfl rfl (I.fld rfl)) rfl rfl rfl ?_
    refine LL.val (R.load rfl rfl (I.ld1 rfl (RowL.cell h rfl))) rfl rfl rfl ?_
    refine LL.val (R.eqT rfl rfl rfl (by omega)) rfl rfl rfl ?_
    refine LL.nilS ?_
    refine CC.yes rfl ?_
    refine CC.region ?_
    refine LL.val (R.move rfl rfl) rfl rfl rfl ?_
    (refine LL.call (R.call rfl rfl rfl) rfl rfl rfl (end_any g 0 false h) ?_; rintro e W46 ⟨rfl, hN, t45⟩; clear h; have h := hN; clear hN; refine ⟨_, rfl, ?_⟩)
    have zt45 := t45.size
    replace gw := gw.kept t45 ⟨by omega, by omega⟩
    refine LL.nil ?_
    refine EE.end _ rfl rfl ?_
    exact ⟨rfl, h, gw⟩
  · rw [show downOnR ⟨key, slots, slot, ahead, ptr, loads, found, is, dn, 8⟩ = ⟨key, slots, slot - 1, ahead, ptr, loads, found, is, dn, 5⟩ from if_neg h0]
    refine X.fn Try.func69 rfl (n := 16) rfl rfl ?_
    refine CC.seq ?_
    refine CC.region ?_
    refine LL.val (R.move rfl rfl) rfl rfl rfl ?_
    refine LL.val (R.nil rfl rfl) rfl rfl rfl ?_
    refine LL.val (R.field rfl rfl (I.fld rfl)) rfl rfl rfl ?_
    refine LL.val (R.load rfl rfl (I.ld1 rfl (RowL.cell h rfl))) rfl rfl rfl ?_
    refine LL.val (R.eqF rfl rfl rfl (by omega)) rfl rfl rfl ?_
    refine LL.nilS ?_
    refine CC.no rfl ?_
    refine CC.region ?_
    refine LL.val (R.move rfl rfl) rfl rfl rfl ?_
    refine LL.val (R.move rfl rfl) rfl rfl rfl ?_
    refine LL.val (R.nil rfl rfl) rfl rfl rfl ?_
    refine LL.val (R.field rfl rfl (I.fld rfl)) rfl rfl rfl ?_
    refine LL.val (R.load rfl rfl (I.ld1 rfl (RowL.cell h rfl))) rfl rfl rfl ?_
    refine LL.val (R.subNc rfl rfl rfl rfl (by omega) (by omega)) rfl rfl rfl ?_
    (refine LL.call (R.call rfl rfl rfl) rfl rfl rfl (ask_5 g (slot - 1) h (by omega)) ?_; rintro e Wa81 ⟨rfl, hN, ta80⟩; clear h; have h := hN; clear hN; refine ⟨_, rfl, ?_⟩)
    have zta80 := ta80.size
    replace gw := gw.kept ta80 ⟨by omega, by omega⟩
    refine LL.nil ?_
    refine EE.end _ rfl rfl ?_
    exact ⟨rfl, h, gw⟩
theorem upKey_any (g : Nat) (v : Nat) {key slots slot ahead ptr loads found : Nat} {is dn : Bool} {w : World} (h : RowL w g 56 [.int .u64 (key : Int), .int .i64 (slots : Int), .int .i64 (slot : Int), .int .u64 (ahead : Int), .int .u64 (ptr : Int), .int .i64 ((2 * slot : Nat) : Int), .int .i64 (loads : Int), .int .u64 (found : Int), .bool is, .bool dn, .int .i64 0, .func (.func 56) #[.pointer (some ⟨g, 0, none⟩)] #[]]) (hs : slot < slots) (hS : slots ≤ 28) : Calls Try.prog 56 #[.pointer (some ⟨g, 0, none⟩), .int .u64 (v : Int)] w fun e w' => e = .returned (.tuple #[]) ∧ RowL w' g 56 (rdR g (gotR ⟨key, slots, slot, ahead, ptr, loads, found, is, dn, 0⟩ v)) ∧ Kept (fun j => j < w.heap.size ∧ j ≠ g) w w' := by
  have gw := Gw.refl g w
  by_cases hv : v = key
  · rw [show gotR ⟨key, slots, slot, ahead, ptr, loads, found, is, dn, 0⟩ v = ⟨key, slots, slot, ahead, ptr, loads, found, is, dn, 1⟩ from if_pos hv]
    refine X.fn Try.func56 rfl (n := 23) rfl rfl ?_
    refine CC.seq ?_
    refine CC.region ?_
    refine LL.val (R.move rfl rfl) rfl rfl rfl ?_
    refine LL.val (R.move rfl rfl) rfl rfl rfl ?_
    refine LL.val (R.nil rfl rfl) rfl rfl rfl ?_
    refine LL.val (R.field rfl rfl (I.fld rfl)) rfl rfl rfl ?_
    refine LL.val (R.field rfl rfl (I.fld rfl)) rfl rfl rfl ?_
    refine LL.val (R.load rfl rfl (I.ld1 rfl (RowL.cell h rfl))) rfl rfl rfl ?_
    refine LL.val (R.eqT rfl rfl rfl (by omega)) rfl rfl rfl ?_
    refine LL.nilS ?_
    refine CC.yes rfl ?_
    refine CC.region ?_
    refine LL.val (R.move rfl rfl) rfl rfl rfl ?_
    refine LL.val (R.move rfl rfl) rfl rfl rfl ?_
    refine LL.val (R.nil rfl rfl) rfl rfl rfl ?_
    refine LL.val (R.field rfl rfl (I.fld rfl)) rfl rfl rfl ?_
    refine LL.val (R.load rfl rfl (I.ld1 rfl (RowL.cell h rfl))) rfl rfl rfl ?_
    (refine LL.call (R.call rfl rfl rfl) rfl rfl rfl (ask_1 g slot h (by omega)) ?_; rintro e W88 ⟨rfl, hN, t87⟩; clear h; have h := hN; clear hN; refine ⟨_, rfl, ?_⟩)
    have zt87 := t87.size
    replace gw := gw.kept t87 ⟨by omega, by omega⟩
    refine LL.nil ?_
    refine EE.end _ rfl rfl ?_
    exact ⟨rfl, h, gw⟩
  · rw [show gotR ⟨key, slots, slot, ahead, ptr, loads, found, is, dn, 0⟩ v = ⟨key, slots, slot, ahead, ptr, loads, found, is, dn, 4⟩ from if_neg hv]
    refine X.fn Try.func56 rfl (n := 23) rfl rfl ?_
    refine CC.seq ?_
    refine CC.region ?_
    refine LL.val (R.move rfl rfl) rfl rfl rfl ?_
    refine LL.val (R.move rfl rfl) rfl rfl rfl ?_
    refine LL.val (R.nil rfl rfl) rfl rfl rfl ?_
    refine LL.val (R.field rfl rfl (I.fld rfl)) rfl rfl rfl ?_
    refine LL.val (R.field rfl rfl (I.fld rfl)) rfl rfl rfl ?_
    refine LL.val (R.load rfl rfl (I.ld1 rfl (RowL.cell h rfl))) rfl rfl rfl ?_
    refine LL.val (R.eqF rfl rfl rfl (by omega)) rfl rfl rfl ?_
    refine LL.nilS ?_
    refine CC.no rfl ?_
    refine CC.region ?_
    refine LL.val (R.move rfl rfl) rfl rfl rfl ?_
    refine LL.val (R.move rfl rfl) rfl rfl rfl ?_
    refine LL.val (R.nil rfl rfl) rfl rfl rfl ?_
    refine LL.val (R.field rfl rfl (I.fld rfl)) rfl rfl rfl ?_
    refine LL.val (R.load rfl rfl (I.ld1 rfl (RowL.cell h rfl))) rfl rfl rfl ?_
    (refine LL.call (R.call rfl rfl rfl) rfl rfl rfl (ask_4 g slot h (by omega)) ?_; rintro e Wa88 ⟨rfl, hN, ta87⟩; clear h; have h := hN; clear hN; refine ⟨_, rfl, ?_⟩)
    have zta87 := ta87.size
    replace gw := gw.kept ta87 ⟨by omega, by omega⟩
    refine LL.nil ?_
    refine EE.end _ rfl rfl ?_
    exact ⟨rfl, h, gw⟩
theorem upAhead_any (g : Nat) (v : Nat) {key slots slot ahead ptr loads found : Nat} {is dn : Bool} {w : World} (h : RowL w g 56 [.int .u64 (key : Int), .int .i64 (slots : Int), .int .i64 (slot : Int), .int .u64 (ahead : Int), .int .u64 (ptr : Int), .int .i64 (2 * (slot : Int) - 1), .int .i64 (loads : Int), .int .u64 (found : Int), .bool is, .bool dn, .int .i64 1, .func (.func 57) #[.pointer (some ⟨g, 0, none⟩)] #[]]) (hs : slot < slots) (hS : slots ≤ 28) : Calls Try.prog 57 #[.pointer (some ⟨g, 0, none⟩), .int .u64 (v : Int)] w fun e w' => e = .returned (.tuple #[]) ∧ RowL w' g 56 (rdR g (gotR ⟨key, slots, slot, ahead, ptr, loads, found, is, dn, 1⟩ v)) ∧ Kept (fun j => j < w.heap.size ∧ j ≠ g) w w' := by
  have gw := Gw.refl g w
  refine X.fn Try.func57 rfl (n := 14) rfl rfl ?_
  refine CC.seq ?_
  refine CC.region ?_
  refine LL.val (R.move rfl rfl) rfl rfl rfl ?_
  refine LL.val (R.move rfl rfl) rfl rfl rfl ?_
  refine LL.val (R.nil rfl rfl) rfl rfl rfl ?_
  refine LL.val (R.field rfl rfl (I.fld rfl)) rfl rfl rfl ?_
  refine LL.store rfl rfl rfl rfl h (by exact Nat.le_of_ble_eq_true rfl) rfl rfl rfl rfl ?_
  intro W37 r38 b36 z39
  have hlb36 := h.lt
  replace r38 : RowL W37 _ 56 [Value.int IntKind.u64 ↑key, Value.int IntKind.i64 ↑slots, Value.int IntKind.i64 ↑slot, Value.int IntKind.u64 ↑v, Value.int IntKind.u64 ↑ptr, Value.int IntKind.i64 (2 * ↑slot - 1), Value.int IntKind.i64 ↑loads, Value.int IntKind.u64 ↑found, Value.bool is, Value.bool dn, Value.int IntKind.i64 1, Value.func (Fn.func 57) #[Value.pointer (some { block := g, off := 0 })] #[]] := r38
  clear h
  replace gw := gw.gr b36 (by omega)
  have h := r38
  clear r38
  refine LL.nilS ?_
  refine CC.region ?_
  refine LL.val (R.move rfl rfl) rfl rfl rfl ?_
  refine LL.val (R.move rfl rfl) rfl rfl rfl ?_
  refine LL.val (R.nil rfl rfl) rfl rfl rfl ?_
  refine LL.val (R.field rfl rfl (I.fld rfl)) rfl rfl rfl ?_
  refine LL.val (R.load rfl rfl (I.ld1 rfl (RowL.cell h rfl))) rfl rfl rfl ?_
  (refine LL.call (R.call rfl rfl rfl) rfl rfl rfl (ask_2 g slot h (by omega)) ?_; rintro e W78 ⟨rfl, hN, t77⟩; clear h; have h := hN; clear hN; refine ⟨_, rfl, ?_⟩)
  have zt77 := t77.size
  replace gw := gw.kept t77 ⟨by omega, by omega⟩
  refine LL.nil ?_
  refine EE.end _ rfl rfl ?_
  exact ⟨rfl, h, gw⟩
theorem upPtr_any (g : Nat) (v : Nat) {key slots slot ahead ptr loads found : Nat} {is dn : Bool} {w : World} (h : RowL w g 56 [.int .u64 (key : Int), .int .i64 (slots : Int), .int .i64 (slot : Int), .int .u64 (ahead : Int), .int .u64 (ptr : Int), .int .i64 ((2 * slot + 1 : Nat) : Int), .int .i64 (loads : Int), .int .u64 (found : Int), .bool is, .bool dn, .int .i64 2, .func (.func 58) #[.pointer (some ⟨g, 0, none⟩)] #[]]) (hs : slot < slots) (hS : slots ≤ 28) : Calls Try.prog 58 #[.pointer (some ⟨g, 0, none⟩), .int .u64 (v : Int)] w fun e w' => e = .returned (.tuple #[]) ∧ RowL w' g 56 (rdR g (gotR ⟨key, slots, slot, ahead, ptr, loads, found, is, dn, 2⟩ v)) ∧ Kept (fun j => j < w.heap.size ∧ j ≠ g) w w' := by
  have gw := Gw.refl g w
  refine X.fn Try.func58 rfl (n := 14) rfl rfl ?_
  refine CC.seq ?_
  refine CC.region ?_
  refine LL.val (R.move rfl rfl) rfl rfl rfl ?_
  refine LL.val (R.move rfl rfl) rfl rfl rfl ?_
  refine LL.val (R.nil rfl rfl) rfl rfl rfl ?_
  refine LL.val (R.field rfl rfl (I.fld rfl)) rfl rfl rfl ?_
  refine LL.store rfl rfl rfl rfl h (by exact Nat.le_of_ble_eq_true rfl) rfl rfl rfl rfl ?_
  intro W37 r38 b36 z39
  have hlb36 := h.lt
  replace r38 : RowL W37 _ 56 [Value.int IntKind.u64 ↑key, Value.int IntKind.i64 ↑slots, Value.int IntKind.i64 ↑slot, Value.int IntKind.u64 ↑ahead, Value.int IntKind.u64 ↑v, Value.int IntKind.i64 ↑(2 * slot + 1), Value.int IntKind.i64 ↑loads, Value.int IntKind.u64 ↑found, Value.bool is, Value.bool dn, Value.int IntKind.i64 2, Value.func (Fn.func 58) #[Value.pointer (some { block := g, off := 0 })] #[]] := r38
  clear h
  replace gw := gw.gr b36 (by omega)
  have h := r38
  clear r38
  refine LL.nilS ?_
  refine CC.region ?_
  refine LL.val (R.move rfl rfl) rfl rfl rfl ?_
  refine LL.val (R.move rfl rfl) rfl rfl rfl ?_
  refine LL.val (R.nil rfl rfl) rfl rfl rfl ?_
  refine LL.val (R.field rfl rfl (I.fld rfl)) rfl rfl rfl ?_
  refine LL.val (R.load rfl rfl (I.ld1 rfl (RowL.cell h rfl))) rfl rfl rfl ?_
  (refine LL.call (R.call rfl rfl rfl) rfl rfl rfl (ask_3 g slot h (by omega)) ?_; rintro e W78 ⟨rfl, hN, t77⟩; clear h; have h := hN; clear hN; refine ⟨_, rfl, ?_⟩)
  have zt77 := t77.size
  replace gw := gw.kept t77 ⟨by omega, by omega⟩
  refine LL.nil ?_
  refine EE.end _ rfl rfl ?_
  exact ⟨rfl, h, gw⟩
theorem upAgain_any (g : Nat) (v : Nat) {key slots slot ahead ptr loads found : Nat} {is dn : Bool} {w : World} (h : RowL w g 56 [.int .u64 (key : Int), .int .i64 (slots : Int), .int .i64 (slot : Int), .int .u64 (ahead : Int), .int .u64 (ptr : Int), .int .i64 ((2 * slot : Nat) : Int), .int .i64 (loads : Int), .int .u64 (found : Int), .bool is, .bool dn, .int .i64 3, .func (.func 59) #[.pointer (some ⟨g, 0, none⟩)] #[]]) (hs : slot < slots) (hS : slots ≤ 28) : Calls Try.prog 59 #[.pointer (some ⟨g, 0, none⟩), .int .u64 (v : Int)] w fun e w' => e = .returned (.tuple #[]) ∧ RowL w' g 56 (rdR g (gotR ⟨key, slots, slot, ahead, ptr, loads, found, is, dn, 3⟩ v)) ∧ Kept (fun j => j < w.heap.size ∧ j ≠ g) w w' := by
  have gw := Gw.refl g w
  by_cases hv : v = key ∧ ptr ≠ 0 ∧ ptr ≠ ahead
  · rw [show gotR ⟨key, slots, slot, ahead, ptr, loads, found, is, dn, 3⟩ v = endR ⟨key, slots, slot, ahead, ptr, loads, found, is, dn, 3⟩ ptr true from if_pos hv]
    obtain ⟨h1, h2, h3⟩ := hv
    refine X.fn Try.func59 rfl (n := 41) rfl rfl ?_
    refine CC.seq ?_
    refine CC.quietB (by kernel_rfl) (by kernel_rfl) (fun W2 b1 z3 => ?_)
    replace h := h.up b1
    replace gw := gw.up b1
    refine SS.val (R.move rfl rfl) rfl rfl ?_
    refine SS.val (R.move rfl rfl) rfl rfl ?_
    refine SS.val (R.nil rfl rfl) rfl rfl ?_
    refine SS.val (R.field rfl rfl (I.fld rfl)) rfl rfl ?_
    refine SS.val (R.field rfl rfl (I.fld rfl)) rfl rfl ?_
    refine SS.val (R.load rfl rfl (I.ld1 rfl (RowL.cell h rfl))) rfl rfl ?_
    refine SS.val (R.eqT rfl rfl rfl (by omega)) rfl rfl ?_
    refine SS.val (R.move rfl rfl) rfl rfl ?_
    refine SS.val (R.move rfl rfl) rfl rfl ?_
    refine SS.val (R.nil rfl rfl) rfl rfl ?_
    refine SS.val (R.field rfl rfl (I.fld rfl)) rfl rfl ?_
    refine SS.val (R.load rfl rfl (I.ld1 rfl (RowL.cell h rfl))) rfl rfl ?_
    refine SS.val (R.neT rfl rfl rfl (by omega)) rfl rfl ?_
    refine SS.val (R.pick rfl rfl rfl) rfl rfl ?_
    refine SS.val (R.move rfl rfl) rfl rfl ?_
    refine SS.val (R.move rfl rfl) rfl rfl ?_
    refine SS.val (R.nil rfl rfl) rfl rfl ?_
    refine SS.val (R.field rfl rfl (I.fld rfl)) rfl rfl ?_
    refine SS.val (R.load rfl rfl (I.ld1 rfl (RowL.cell h rfl))) rfl rfl ?_
    refine SS.val (R.move rfl rfl) rfl rfl ?_
    refine SS.val (R.nil rfl rfl) rfl rfl ?_
    refine SS.val (R.field rfl rfl (I.fld rfl)) rfl rfl ?_
    refine SS.val (R.load rfl rfl (I.ld1 rfl (RowL.cell h rfl))) rfl rfl ?_
    refine SS.val (R.neT rfl rfl rfl (by omega)) rfl rfl ?_
    refine SS.val (R.pick rfl rfl rfl) rfl rfl ?_
    refine SS.nilQ ?_
    refine EE.thenN ?_
    refine CC.yes rfl ?_
    refine CC.region ?_
    refine LL.val (R.move rfl rfl) rfl rfl rfl ?_
    refine LL.val (R.move rfl rfl) rfl rfl rfl ?_
    refine LL.val (R.nil rfl rfl) rfl rfl rfl ?_
    refine LL.val (R.field rfl rfl (I.fld rfl)) rfl rfl rfl ?_
    refine LL.val (R.load rfl rfl (I.ld1 rfl (RowL.cell h rfl))) rfl rfl rfl ?_
    (refine LL.call (R.call rfl rfl rfl) rfl rfl rfl (end_any g ptr true h) ?_; rintro e W217 ⟨rfl, hN, t216⟩; clear h; have h := hN; clear hN; refine ⟨_, rfl, ?_⟩)
    have zt216 := t216.size
    replace gw := gw.kept t216 ⟨by omega, by omega⟩
    refine LL.nil ?_
    refine EE.end _ rfl rfl ?_
    exact ⟨rfl, h, gw⟩
  · rw [show gotR ⟨key, slots, slot, ahead, ptr, loads, found, is, dn, 3⟩ v = upOnR ⟨key, slots, slot, ahead, ptr, loads, found, is, dn, 3⟩ ptr from if_neg hv]
    by_cases h1 : v = key
    · by_cases h2 : ptr = 0
      · clear hv
        refine X.fn Try.func59 rfl (n := 41) rfl rfl ?_
        refine CC.seq ?_
        refine CC.quietB (by kernel_rfl) (by kernel_rfl) (fun Wa2 ba1 za3 => ?_)
        replace h := h.up ba1
        replace gw := gw.up ba1
        refine SS.val (R.move rfl rfl) rfl rfl ?_
        refine SS.val (R.move rfl rfl) rfl rfl ?_
        refine SS.val (R.nil rfl rfl) rfl rfl ?_
        refine SS.val (R.field rfl rfl (I.fld rfl)) rfl rfl ?_
        refine SS.val (R.field rfl rfl (I.fld rfl)) rfl rfl ?_
        refine SS.val (R.load rfl rfl (I.ld1 rfl (RowL.cell h rfl))) rfl rfl ?_
        refine SS.val (R.eqT rfl rfl rfl (by omega)) rfl rfl ?_
        refine SS.val (R.move rfl rfl) rfl rfl ?_
        refine SS.val (R.move rfl rfl) rfl rfl ?_
        refine SS.val (R.nil rfl rfl) rfl rfl ?_
        refine SS.val (R.field rfl rfl (I.fld rfl)) rfl rfl ?_
        refine SS.val (R.load rfl rfl (I.ld1 rfl (RowL.cell h rfl))) rfl rfl ?_
        refine SS.val (R.neF rfl rfl rfl (by omega)) rfl rfl ?_
        refine SS.val (R.pick rfl rfl rfl) rfl rfl ?_
        refine SS.val (R.move rfl rfl) rfl rfl ?_
        refine SS.skip rfl rfl ?_
        refine SS.skip rfl rfl ?_
        refine SS.skip rfl rfl ?_
        refine SS.skip rfl rfl ?_
        refine SS.skip rfl rfl ?_
        refine SS.skip rfl rfl ?_
        refine SS.skip rfl rfl ?_
        refine SS.skip rfl rfl ?_
        refine SS.skip rfl rfl ?_
        refine SS.val (R.pick rfl rfl rfl) rfl rfl ?_
        refine SS.nilQ ?_
        refine EE.thenN ?_
        refine CC.no rfl ?_
        refine CC.region ?_
        refine LL.val (R.move rfl rfl) rfl rfl rfl ?_
        refine LL.val (R.move rfl rfl) rfl rfl rfl ?_
        refine LL.val (R.nil rfl rfl) rfl rfl rfl ?_
        refine LL.val (R.field rfl rfl (I.fld rfl)) rfl rfl rfl ?_
        refine LL.val (R.load rfl rfl (I.ld1 rfl (RowL.cell h rfl))) rfl rfl rfl ?_
        (refine LL.call (R.call rfl rfl rfl) rfl rfl rfl (upOn_3 g ptr h hs hS) ?_; rintro e Wa154 ⟨rfl, hN, ta153⟩; clear h; have h := hN; clear hN; refine ⟨_, rfl, ?_⟩)
        have zta153 := ta153.size
        replace gw := gw.kept ta153 ⟨by omega, by omega⟩
        refine LL.nil ?_
        refine EE.end _ rfl rfl ?_
        exact ⟨rfl, h, gw⟩
      · have h3 : ptr = ahead := Decidable.byContradiction fun h3 => hv ⟨h1, h2, h3⟩
        clear hv
        refine X.fn Try.func59 rfl (n := 41) rfl rfl ?_
        refine CC.seq ?_
        refine CC.quietB (by kernel_rfl) (by kernel_rfl) (fun Wb2 bb1 zb3 => ?_)
        replace h := h.up bb1
        replace gw := gw.up bb1
        refine SS.val (R.move rfl rfl) rfl rfl ?_
        refine SS.val (R.move rfl rfl) rfl rfl ?_
        refine SS.val (R.nil rfl rfl) rfl rfl ?_
        refine SS.val (R.field rfl rfl (I.fld rfl)) rfl rfl ?_
        refine SS.val (R.field rfl rfl (I.fld rfl)) rfl rfl ?_
        refine SS.val (R.load rfl rfl (I.ld1 rfl (RowL.cell h rfl))) rfl rfl ?_
        refine SS.val (R.eqT rfl rfl rfl (by omega)) rfl rfl ?_
        refine SS.val (R.move rfl rfl) rfl rfl ?_
        refine SS.val (R.move rfl rfl) rfl rfl ?_
        refine SS.val (R.nil rfl rfl) rfl rfl ?_
        refine SS.val (R.field rfl rfl (I.fld rfl)) rfl rfl ?_
        refine SS.val (R.load rfl rfl (I.ld1 rfl (RowL.cell h rfl))) rfl rfl ?_
        refine SS.val (R.neT rfl rfl rfl (by omega)) rfl rfl ?_
        refine SS.val (R.pick rfl rfl rfl) rfl rfl ?_
        refine SS.val (R.move rfl rfl) rfl rfl ?_
        refine SS.val (R.move rfl rfl) rfl rfl ?_
        refine SS.val (R.nil rfl rfl) rfl rfl ?_
        refine SS.val (R.field rfl rfl (I.fld rfl)) rfl rfl ?_
        refine SS.val (R.load rfl rfl (I.ld1 rfl (RowL.cell h rfl))) rfl rfl ?_
        refine SS.val (R.move rfl rfl) rfl rfl ?_
        refine SS.val (R.nil rfl rfl) rfl rfl ?_
        refine SS.val (R.field rfl rfl (I.fld rfl)) rfl rfl ?_
        refine SS.val (R.load rfl rfl (I.ld1 rfl (RowL.cell h rfl))) rfl rfl ?_
        refine SS.val (R.neF rfl rfl rfl (by omega)) rfl rfl ?_
        refine SS.val (R.pick rfl rfl rfl) rfl rfl ?_
        refine SS.nilQ ?_
        refine EE.thenN ?_
        refine CC.no rfl ?_
        refine CC.region ?_
        refine LL.val (R.move rfl rfl) rfl rfl rfl ?_
        refine LL.val (R.move rfl rfl) rfl rfl rfl ?_
        refine LL.val (R.nil rfl rfl) rfl rfl rfl ?_
        refine LL.val (R.field rfl rfl (I.fld rfl)) rfl rfl rfl ?_
        refine LL.val (R.load rfl rfl (I.ld1 rfl (RowL.cell h rfl))) rfl rfl rfl ?_
        (refine LL.call (R.call rfl rfl rfl) rfl rfl rfl (upOn_3 g ptr h hs hS) ?_; rintro e Wb217 ⟨rfl, hN, tb216⟩; clear h; have h := hN; clear hN; refine ⟨_, rfl, ?_⟩)
        have ztb216 := tb216.size
        replace gw := gw.kept tb216 ⟨by omega, by omega⟩
        refine LL.nil ?_
        refine EE.end _ rfl rfl ?_
        exact ⟨rfl, h, gw⟩
    · clear hv
      refine X.fn Try.func59 rfl (n := 41) rfl rfl ?_
      refine CC.seq ?_
      refine CC.quietB (by kernel_rfl) (by kernel_rfl) (fun Wc2 bc1 zc3 => ?_)
      replace h := h.up bc1
      replace gw := gw.up bc1
      refine SS.val (R.move rfl rfl) rfl rfl ?_
      refine SS.val (R.move rfl rfl) rfl rfl ?_
      refine SS.val (R.nil rfl rfl) rfl rfl ?_
      refine SS.val (R.field rfl rfl (I.fld rfl)) rfl rfl ?_
      refine SS.val (R.field rfl rfl (I.fld rfl)) rfl rfl ?_
      refine SS.val (R.load rfl rfl (I.ld1 rfl (RowL.cell h rfl))) rfl rfl ?_
      refine SS.val (R.eqF rfl rfl rfl (by omega)) rfl rfl ?_
      refine SS.val (R.move rfl rfl) rfl rfl ?_
      refine SS.skip rfl rfl ?_
      refine SS.skip rfl rfl ?_
      refine SS.skip rfl rfl ?_
      refine SS.skip rfl rfl ?_
      refine SS.skip rfl rfl ?_
      refine SS.val (R.pick rfl rfl rfl) rfl rfl ?_
      refine SS.val (R.move rfl rfl) rfl rfl ?_
      refine SS.skip rfl rfl ?_
      refine SS.skip rfl rfl ?_
      refine SS.skip rfl rfl ?_
      refine SS.skip rfl rfl ?_
      refine SS.skip rfl rfl ?_
      refine SS.skip rfl rfl ?_
      refine SS.skip rfl rfl ?_
      refine SS.skip rfl rfl ?_
      refine SS.skip rfl rfl ?_
      refine SS.val (R.pick rfl rfl rfl) rfl rfl ?_
      refine SS.nilQ ?_
      refine EE.thenN ?_
      refine CC.no rfl ?_
      refine CC.region ?_
      refine LL.val (R.move rfl rfl) rfl rfl rfl ?_
      refine LL.val (R.move rfl rfl) rfl rfl rfl ?_
      refine LL.val (R.nil rfl rfl) rfl rfl rfl ?_
      refine LL.val (R.field rfl rfl (I.fld rfl)) rfl rfl rfl ?_
      refine LL.val (R.load rfl rfl (I.ld1 rfl (RowL.cell h rfl))) rfl rfl rfl ?_
      (refine LL.call (R.call rfl rfl rfl) rfl rfl rfl (upOn_3 g ptr h hs hS) ?_; rintro e Wc119 ⟨rfl, hN, tc118⟩; clear h; have h := hN; clear hN; refine ⟨_, rfl, ?_⟩)
      have ztc118 := tc118.size
      replace gw := gw.kept tc118 ⟨by omega, by omega⟩
      refine LL.nil ?_
      refine EE.end _ rfl rfl ?_
      exact ⟨rfl, h, gw⟩
theorem upOn_any (g : Nat) (v : Nat) {key slots slot ahead ptr loads found : Nat} {is dn : Bool} {w : World} (h : RowL w g 56 [.int .u64 (key : Int), .int .i64 (slots : Int), .int .i64 (slot : Int), .int .u64 (ahead : Int), .int .u64 (ptr : Int), .int .i64 ((2 * slot + 1 : Nat) : Int), .int .i64 (loads : Int), .int .u64 (found : Int), .bool is, .bool dn, .int .i64 4, .func (.func 60) #[.pointer (some ⟨g, 0, none⟩)] #[]]) (hs : slot < slots) (hS : slots ≤ 28) : Calls Try.prog 60 #[.pointer (some ⟨g, 0, none⟩), .int .u64 (v : Int)] w fun e w' => e = .returned (.tuple #[]) ∧ RowL w' g 56 (rdR g (gotR ⟨key, slots, slot, ahead, ptr, loads, found, is, dn, 4⟩ v)) ∧ Kept (fun j => j < w.heap.size ∧ j ≠ g) w w' := by
  have gw := Gw.refl g w
  exact upOn_4 g v h hs hS
theorem downKey_any (g : Nat) (v : Nat) {key slots slot ahead ptr loads found : Nat} {is dn : Bool} {w : World} (h : RowL w g 56 [.int .u64 (key : Int), .int .i64 (slots : Int), .int .i64 (slot : Int), .int .u64 (ahead : Int), .int .u64 (ptr : Int), .int .i64 ((2 * slot : Nat) : Int), .int .i64 (loads : Int), .int .u64 (found : Int), .bool is, .bool dn, .int .i64 5, .func (.func 61) #[.pointer (some ⟨g, 0, none⟩)] #[]]) (hs : slot < slots) (hS : slots ≤ 28) : Calls Try.prog 61 #[.pointer (some ⟨g, 0, none⟩), .int .u64 (v : Int)] w fun e w' => e = .returned (.tuple #[]) ∧ RowL w' g 56 (rdR g (gotR ⟨key, slots, slot, ahead, ptr, loads, found, is, dn, 5⟩ v)) ∧ Kept (fun j => j < w.heap.size ∧ j ≠ g) w w' := by
  have gw := Gw.refl g w
  by_cases hv : v = key
  · rw [show gotR ⟨key, slots, slot, ahead, ptr, loads, found, is, dn, 5⟩ v = ⟨key, slots, slot, ahead, ptr, loads, found, is, dn, 6⟩ from if_pos hv]
    refine X.fn Try.func61 rfl (n := 19) rfl rfl ?_
    refine CC.seq ?_
    refine CC.region ?_
    refine LL.val (R.move rfl rfl) rfl rfl rfl ?_
    refine LL.val (R.move rfl rfl) rfl rfl rfl ?_
    refine LL.val (R.nil rfl rfl) rfl rfl rfl ?_
    refine LL.val (R.field rfl rfl (I.fld rfl)) rfl rfl rfl ?_
    refine LL.val (R.field rfl rfl (I.fld rfl)) rfl rfl rfl ?_
    refine LL.val (R.load rfl rfl (I.ld1 rfl (RowL.cell h rfl))) rfl rfl rfl ?_
    refine LL.val (R.eqT rfl rfl rfl (by omega)) rfl rfl rfl ?_
    refine LL.nilS ?_
    refine CC.yes rfl ?_
    refine CC.region ?_
    refine LL.val (R.move rfl rfl) rfl rfl rfl ?_
    refine LL.val (R.move rfl rfl) rfl rfl rfl ?_
    refine LL.val (R.nil rfl rfl) rfl rfl rfl ?_
    refine LL.val (R.field rfl rfl (I.fld rfl)) rfl rfl rfl ?_
    refine LL.val (R.load rfl rfl (I.ld1 rfl (RowL.cell h rfl))) rfl rfl rfl ?_
    (refine LL.call (R.call rfl rfl rfl) rfl rfl rfl (ask_6 g slot h (by omega)) ?_; rintro e W88 ⟨rfl, hN, t87⟩; clear h; have h := hN; clear hN; refine ⟨_, rfl, ?_⟩)
    have zt87 := t87.size
    replace gw := gw.kept t87 ⟨by omega, by omega⟩
    refine LL.nil ?_
    refine EE.end _ rfl rfl ?_
    exact ⟨rfl, h, gw⟩
  · rw [show gotR ⟨key, slots, slot, ahead, ptr, loads, found, is, dn, 5⟩ v = downOnR ⟨key, slots, slot, ahead, ptr, loads, found, is, dn, 5⟩ from if_neg hv]
    refine X.fn Try.func61 rfl (n := 19) rfl rfl ?_
    refine CC.seq ?_
    refine CC.region ?_
    refine LL.val (R.move rfl rfl) rfl rfl rfl ?_
    refine LL.val (R.move rfl rfl) rfl rfl rfl ?_
    refine LL.val (R.nil rfl rfl) rfl rfl rfl ?_
    refine LL.val (R.field rfl rfl (I.fld rfl)) rfl rfl rfl ?_
    refine LL.val (R.field rfl rfl (I.fld rfl)) rfl rfl rfl ?_
    refine LL.val (R.load rfl rfl (I.ld1 rfl (RowL.cell h rfl))) rfl rfl rfl ?_
    refine LL.val (R.eqF rfl rfl rfl (by omega)) rfl rfl rfl ?_
    refine LL.nilS ?_
    refine CC.no rfl ?_
    refine CC.region ?_
    refine LL.val (R.move rfl rfl) rfl rfl rfl ?_
    (refine LL.call (R.call rfl rfl rfl) rfl rfl rfl (downOn_5 g h hs hS) ?_; rintro e Wa60 ⟨rfl, hN, ta59⟩; clear h; have h := hN; clear hN; refine ⟨_, rfl, ?_⟩)
    have zta59 := ta59.size
    replace gw := gw.kept ta59 ⟨by omega, by omega⟩
    refine LL.nil ?_
    refine EE.end _ rfl rfl ?_
    exact ⟨rfl, h, gw⟩
theorem downPtr_any (g : Nat) (v : Nat) {key slots slot ahead ptr loads found : Nat} {is dn : Bool} {w : World} (h : RowL w g 56 [.int .u64 (key : Int), .int .i64 (slots : Int), .int .i64 (slot : Int), .int .u64 (ahead : Int), .int .u64 (ptr : Int), .int .i64 ((2 * slot + 1 : Nat) : Int), .int .i64 (loads : Int), .int .u64 (found : Int), .bool is, .bool dn, .int .i64 6, .func (.func 62) #[.pointer (some ⟨g, 0, none⟩)] #[]]) (hs : slot < slots) (hS : slots ≤ 28) : Calls Try.prog 62 #[.pointer (some ⟨g, 0, none⟩), .int .u64 (v : Int)] w fun e w' => e = .returned (.tuple #[]) ∧ RowL w' g 56 (rdR g (gotR ⟨key, slots, slot, ahead, ptr, loads, found, is, dn, 6⟩ v)) ∧ Kept (fun j => j < w.heap.size ∧ j ≠ g) w w' := by
  have gw := Gw.refl g w
  by_cases hv : v = 0
  · rw [show gotR ⟨key, slots, slot, ahead, ptr, loads, found, is, dn, 6⟩ v = downOnR ⟨key, slots, slot, ahead, v, loads, found, is, dn, 6⟩ from if_neg (fun e => e hv)]
    refine X.fn Try.func62 rfl (n := 18) rfl rfl ?_
    refine CC.seq ?_
    refine CC.region ?_
    refine LL.val (R.move rfl rfl) rfl rfl rfl ?_
    refine LL.val (R.move rfl rfl) rfl rfl rfl ?_
    refine LL.val (R.nil rfl rfl) rfl rfl rfl ?_
    refine LL.val (R.field rfl rfl (I.fld rfl)) rfl rfl rfl ?_
    refine LL.store rfl rfl rfl rfl h (by exact Nat.le_of_ble_eq_true rfl) rfl rfl rfl rfl ?_
    intro W37 r38 b36 z39
    have hlb36 := h.lt
    replace r38 : RowL W37 _ 56 [Value.int IntKind.u64 ↑key, Value.int IntKind.i64 ↑slots, Value.int IntKind.i64 ↑slot, Value.int IntKind.u64 ↑ahead, Value.int IntKind.u64 ↑v, Value.int IntKind.i64 ↑(2 * slot + 1), Value.int IntKind.i64 ↑loads, Value.int IntKind.u64 ↑found, Value.bool is, Value.bool dn, Value.int IntKind.i64 6, Value.func (Fn.func 62) #[Value.pointer (some { block := g, off := 0 })] #[]] := r38
    clear h
    replace gw := gw.gr b36 (by omega)
    have h := r38
    clear r38
    refine LL.nilS ?_
    refine CC.seq ?_
    refine CC.region ?_
    refine LL.val (R.move rfl rfl) rfl rfl rfl ?_
    refine LL.val (R.neF rfl rfl rfl (by omega)) rfl rfl rfl ?_
    refine LL.nilS ?_
    refine CC.no rfl ?_
    refine CC.region ?_
    refine LL.val (R.move rfl rfl) rfl rfl rfl ?_
    (refine LL.call (R.call rfl rfl rfl) rfl rfl rfl (downOn_6 g h hs hS) ?_; rintro e W64 ⟨rfl, hN, t63⟩; clear h; have h := hN; clear hN; refine ⟨_, rfl, ?_⟩)
    have zt63 := t63.size
    replace gw := gw.kept t63 ⟨by omega, by omega⟩
    refine LL.nil ?_
    refine EE.end _ rfl rfl ?_
    exact ⟨rfl, h, gw⟩
  · rw [show gotR ⟨key, slots, slot, ahead, ptr, loads, found, is, dn, 6⟩ v = ⟨key, slots, slot, ahead, v, loads, found, is, dn, 7⟩ from if_pos hv]
    refine X.fn Try.func62 rfl (n := 18) rfl rfl ?_
    refine CC.seq ?_
    refine CC.region ?_
    refine LL.val (R.move rfl rfl) rfl rfl rfl ?_
    refine LL.val (R.move rfl rfl) rfl rfl rfl ?_
    refine LL.val (R.nil rfl rfl) rfl rfl rfl ?_
    refine LL.val (R.field rfl rfl (I.fld rfl)) rfl rfl rfl ?_
    refine LL.store rfl rfl rfl rfl h (by exact Nat.le_of_ble_eq_true rfl) rfl rfl rfl rfl ?_
    intro Wa37 ra38 ba36 za39
    have hlba36 := h.lt
    replace ra38 : RowL Wa37 _ 56 [Value.int IntKind.u64 ↑key, Value.int IntKind.i64 ↑slots, Value.int IntKind.i64 ↑slot, Value.int IntKind.u64 ↑ahead, Value.int IntKind.u64 ↑v, Value.int IntKind.i64 ↑(2 * slot + 1), Value.int IntKind.i64 ↑loads, Value.int IntKind.u64 ↑found, Value.bool is, Value.bool dn, Value.int IntKind.i64 6, Value.func (Fn.func 62) #[Value.pointer (some { block := g, off := 0 })] #[]] := ra38
    clear h
    replace gw := gw.gr ba36 (by omega)
    have h := ra38
    clear ra38
    refine LL.nilS ?_
    refine CC.seq ?_
    refine CC.region ?_
    refine LL.val (R.move rfl rfl) rfl rfl rfl ?_
    refine LL.val (R.neT rfl rfl rfl (by omega)) rfl rfl rfl ?_
    refine LL.nilS ?_
    refine CC.yes rfl ?_
    refine CC.region ?_
    refine LL.val (R.move rfl rfl) rfl rfl rfl ?_
    refine LL.val (R.move rfl rfl) rfl rfl rfl ?_
    refine LL.val (R.nil rfl rfl) rfl rfl rfl ?_
    refine LL.val (R.field rfl rfl (I.fld rfl)) rfl rfl rfl ?_
    refine LL.val (R.load rfl rfl (I.ld1 rfl (RowL.cell h rfl))) rfl rfl rfl ?_
    (refine LL.call (R.call rfl rfl rfl) rfl rfl rfl (ask_7 g slot h (by omega)) ?_; rintro e Wa92 ⟨rfl, hN, ta91⟩; clear h; have h := hN; clear hN; refine ⟨_, rfl, ?_⟩)
    have zta91 := ta91.size
    replace gw := gw.kept ta91 ⟨by omega, by omega⟩
    refine LL.nil ?_
    refine EE.end _ rfl rfl ?_
    exact ⟨rfl, h, gw⟩
theorem downAhead_any (g : Nat) (v : Nat) {key slots slot ahead ptr loads found : Nat} {is dn : Bool} {w : World} (h : RowL w g 56 [.int .u64 (key : Int), .int .i64 (slots : Int), .int .i64 (slot : Int), .int .u64 (ahead : Int), .int .u64 (ptr : Int), .int .i64 (2 * (slot : Int) - 1), .int .i64 (loads : Int), .int .u64 (found : Int), .bool is, .bool dn, .int .i64 7, .func (.func 63) #[.pointer (some ⟨g, 0, none⟩)] #[]]) (hs : slot < slots) (hS : slots ≤ 28) : Calls Try.prog 63 #[.pointer (some ⟨g, 0, none⟩), .int .u64 (v : Int)] w fun e w' => e = .returned (.tuple #[]) ∧ RowL w' g 56 (rdR g (gotR ⟨key, slots, slot, ahead, ptr, loads, found, is, dn, 7⟩ v)) ∧ Kept (fun j => j < w.heap.size ∧ j ≠ g) w w' := by
  have gw := Gw.refl g w
  refine X.fn Try.func63 rfl (n := 14) rfl rfl ?_
  refine CC.seq ?_
  refine CC.region ?_
  refine LL.val (R.move rfl rfl) rfl rfl rfl ?_
  refine LL.val (R.move rfl rfl) rfl rfl rfl ?_
  refine LL.val (R.nil rfl rfl) rfl rfl rfl ?_
  refine LL.val (R.field rfl rfl (I.fld rfl)) rfl rfl rfl ?_
  refine LL.store rfl rfl rfl rfl h (by exact Nat.le_of_ble_eq_true rfl) rfl rfl rfl rfl ?_
  intro W37 r38 b36 z39
  have hlb36 := h.lt
  replace r38 : RowL W37 _ 56 [Value.int IntKind.u64 ↑key, Value.int IntKind.i64 ↑slots, Value.int IntKind.i64 ↑slot, Value.int IntKind.u64 ↑v, Value.int IntKind.u64 ↑ptr, Value.int IntKind.i64 (2 * ↑slot - 1), Value.int IntKind.i64 ↑loads, Value.int IntKind.u64 ↑found, Value.bool is, Value.bool dn, Value.int IntKind.i64 7, Value.func (Fn.func 63) #[Value.pointer (some { block := g, off := 0 })] #[]] := r38
  clear h
  replace gw := gw.gr b36 (by omega)
  have h := r38
  clear r38
  refine LL.nilS ?_
  refine CC.region ?_
  refine LL.val (R.move rfl rfl) rfl rfl rfl ?_
  refine LL.val (R.move rfl rfl) rfl rfl rfl ?_
  refine LL.val (R.nil rfl rfl) rfl rfl rfl ?_
  refine LL.val (R.field rfl rfl (I.fld rfl)) rfl rfl rfl ?_
  refine LL.val (R.load rfl rfl (I.ld1 rfl (RowL.cell h rfl))) rfl rfl rfl ?_
  (refine LL.call (R.call rfl rfl rfl) rfl rfl rfl (ask_8 g slot h (by omega)) ?_; rintro e W78 ⟨rfl, hN, t77⟩; clear h; have h := hN; clear hN; refine ⟨_, rfl, ?_⟩)
  have zt77 := t77.size
  replace gw := gw.kept t77 ⟨by omega, by omega⟩
  refine LL.nil ?_
  refine EE.end _ rfl rfl ?_
  exact ⟨rfl, h, gw⟩
theorem downAgain_any (g : Nat) (v : Nat) {key slots slot ahead ptr loads found : Nat} {is dn : Bool} {w : World} (h : RowL w g 56 [.int .u64 (key : Int), .int .i64 (slots : Int), .int .i64 (slot : Int), .int .u64 (ahead : Int), .int .u64 (ptr : Int), .int .i64 ((2 * slot : Nat) : Int), .int .i64 (loads : Int), .int .u64 (found : Int), .bool is, .bool dn, .int .i64 8, .func (.func 64) #[.pointer (some ⟨g, 0, none⟩)] #[]]) (hs : slot < slots) (hS : slots ≤ 28) : Calls Try.prog 64 #[.pointer (some ⟨g, 0, none⟩), .int .u64 (v : Int)] w fun e w' => e = .returned (.tuple #[]) ∧ RowL w' g 56 (rdR g (gotR ⟨key, slots, slot, ahead, ptr, loads, found, is, dn, 8⟩ v)) ∧ Kept (fun j => j < w.heap.size ∧ j ≠ g) w w' := by
  have gw := Gw.refl g w
  by_cases hv : v = key ∧ ptr ≠ ahead
  · rw [show gotR ⟨key, slots, slot, ahead, ptr, loads, found, is, dn, 8⟩ v = endR ⟨key, slots, slot, ahead, ptr, loads, found, is, dn, 8⟩ ptr true from if_pos hv]
    obtain ⟨h1, h2⟩ := hv
    refine X.fn Try.func64 rfl (n := 30) rfl rfl ?_
    refine CC.seq ?_
    refine CC.quietB (by kernel_rfl) (by kernel_rfl) (fun W2 b1 z3 => ?_)
    replace h := h.up b1
    replace gw := gw.up b1
    refine SS.val (R.move rfl rfl) rfl rfl ?_
    refine SS.val (R.move rfl rfl) rfl rfl ?_
    refine SS.val (R.nil rfl rfl) rfl rfl ?_
    refine SS.val (R.field rfl rfl (I.fld rfl)) rfl rfl ?_
    refine SS.val (R.field rfl rfl (I.fld rfl)) rfl rfl ?_
    refine SS.val (R.load rfl rfl (I.ld1 rfl (RowL.cell h rfl))) rfl rfl ?_
    refine SS.val (R.eqT rfl rfl rfl (by omega)) rfl rfl ?_
    refine SS.val (R.move rfl rfl) rfl rfl ?_
    refine SS.val (R.move rfl rfl) rfl rfl ?_
    refine SS.val (R.nil rfl rfl) rfl rfl ?_
    refine SS.val (R.field rfl rfl (I.fld rfl)) rfl rfl ?_
    refine SS.val (R.load rfl rfl (I.ld1 rfl (RowL.cell h rfl))) rfl rfl ?_
    refine SS.val (R.move rfl rfl) rfl rfl ?_
    refine SS.val (R.nil rfl rfl) rfl rfl ?_
    refine SS.val (R.field rfl rfl (I.fld rfl)) rfl rfl ?_
    refine SS.val (R.load rfl rfl (I.ld1 rfl (RowL.cell h rfl))) rfl rfl ?_
    refine SS.val (R.neT rfl rfl rfl (by omega)) rfl rfl ?_
    refine SS.val (R.pick rfl rfl rfl) rfl rfl ?_
    refine SS.nilQ ?_
    refine EE.thenN ?_
    refine CC.yes rfl ?_
    refine CC.region ?_
    refine LL.val (R.move rfl rfl) rfl rfl rfl ?_
    refine LL.val (R.move rfl rfl) rfl rfl rfl ?_
    refine LL.val (R.nil rfl rfl) rfl rfl rfl ?_
    refine LL.val (R.field rfl rfl (I.fld rfl)) rfl rfl rfl ?_
    refine LL.val (R.load rfl rfl (I.ld1 rfl (RowL.cell h rfl))) rfl rfl rfl ?_
    (refine LL.call (R.call rfl rfl rfl) rfl rfl rfl (end_any g ptr true h) ?_; rintro e W168 ⟨rfl, hN, t167⟩; clear h; have h := hN; clear hN; refine ⟨_, rfl, ?_⟩)
    have zt167 := t167.size
    replace gw := gw.kept t167 ⟨by omega, by omega⟩
    refine LL.nil ?_
    refine EE.end _ rfl rfl ?_
    exact ⟨rfl, h, gw⟩
  · rw [show gotR ⟨key, slots, slot, ahead, ptr, loads, found, is, dn, 8⟩ v = downOnR ⟨key, slots, slot, ahead, ptr, loads, found, is, dn, 8⟩ from if_neg hv]
    by_cases h1 : v = key
    · have h3 : ptr = ahead := Decidable.byContradiction fun h3 => hv ⟨h1, h3⟩
      clear hv
      refine X.fn Try.func64 rfl (n := 30) rfl rfl ?_
      refine CC.seq ?_
      refine CC.quietB (by kernel_rfl) (by kernel_rfl) (fun Wa2 ba1 za3 => ?_)
      replace h := h.up ba1
      replace gw := gw.up ba1
      refine SS.val (R.move rfl rfl) rfl rfl ?_
      refine SS.val (R.move rfl rfl) rfl rfl ?_
      refine SS.val (R.nil rfl rfl) rfl rfl ?_
      refine SS.val (R.field rfl rfl (I.fld rfl)) rfl rfl ?_
      refine SS.val (R.field rfl rfl (I.fld rfl)) rfl rfl ?_
      refine SS.val (R.load rfl rfl (I.ld1 rfl (RowL.cell h rfl))) rfl rfl ?_
      refine SS.val (R.eqT rfl rfl rfl (by omega)) rfl rfl ?_
      refine SS.val (R.move rfl rfl) rfl rfl ?_
      refine SS.val (R.move rfl rfl) rfl rfl ?_
      refine SS.val (R.nil rfl rfl) rfl rfl ?_
      refine SS.val (R.field rfl rfl (I.fld rfl)) rfl rfl ?_
      refine SS.val (R.load rfl rfl (I.ld1 rfl (RowL.cell h rfl))) rfl rfl ?_
      refine SS.val (R.move rfl rfl) rfl rfl ?_
      refine SS.val (R.nil rfl rfl) rfl rfl ?_
      refine SS.val (R.field rfl rfl (I.fld rfl)) rfl rfl ?_
      refine SS.val (R.load rfl rfl (I.ld1 rfl (RowL.cell h rfl))) rfl rfl ?_
      refine SS.val (R.neF rfl rfl rfl (by omega)) rfl rfl ?_
      refine SS.val (R.pick rfl rfl rfl) rfl rfl ?_
      refine SS.nilQ ?_
      refine EE.thenN ?_
      refine CC.no rfl ?_
      refine CC.region ?_
      refine LL.val (R.move rfl rfl) rfl rfl rfl ?_
      (refine LL.call (R.call rfl rfl rfl) rfl rfl rfl (downOn_8 g h hs hS) ?_; rintro e Wa140 ⟨rfl, hN, ta139⟩; clear h; have h := hN; clear hN; refine ⟨_, rfl, ?_⟩)
      have zta139 := ta139.size
      replace gw := gw.kept ta139 ⟨by omega, by omega⟩
      refine LL.nil ?_
      refine EE.end _ rfl rfl ?_
      exact ⟨rfl, h, gw⟩
    · clear hv
      refine X.fn Try.func64 rfl (n := 30) rfl rfl ?_
      refine CC.seq ?_
      refine CC.quietB (by kernel_rfl) (by kernel_rfl) (fun Wb2 bb1 zb3 => ?_)
      replace h := h.up bb1
      replace gw := gw.up bb1
      refine SS.val (R.move rfl rfl) rfl rfl ?_
      refine SS.val (R.move rfl rfl) rfl rfl ?_
      refine SS.val (R.nil rfl rfl) rfl rfl ?_
      refine SS.val (R.field rfl rfl (I.fld rfl)) rfl rfl ?_
      refine SS.val (R.field rfl rfl (I.fld rfl)) rfl rfl ?_
      refine SS.val (R.load rfl rfl (I.ld1 rfl (RowL.cell h rfl))) rfl rfl ?_
      refine SS.val (R.eqF rfl rfl rfl (by omega)) rfl rfl ?_
      refine SS.val (R.move rfl rfl) rfl rfl ?_
      refine SS.skip rfl rfl ?_
      refine SS.skip rfl rfl ?_
      refine SS.skip rfl rfl ?_
      refine SS.skip rfl rfl ?_
      refine SS.skip rfl rfl ?_
      refine SS.skip rfl rfl ?_
      refine SS.skip rfl rfl ?_
      refine SS.skip rfl rfl ?_
      refine SS.skip rfl rfl ?_
      refine SS.val (R.pick rfl rfl rfl) rfl rfl ?_
      refine SS.nilQ ?_
      refine EE.thenN ?_
      refine CC.no rfl ?_
      refine CC.region ?_
      refine LL.val (R.move rfl rfl) rfl rfl rfl ?_
      (refine LL.call (R.call rfl rfl rfl) rfl rfl rfl (downOn_8 g h hs hS) ?_; rintro e Wb77 ⟨rfl, hN, tb76⟩; clear h; have h := hN; clear hN; refine ⟨_, rfl, ?_⟩)
      have ztb76 := tb76.size
      replace gw := gw.kept tb76 ⟨by omega, by omega⟩
      refine LL.nil ?_
      refine EE.end _ rfl rfl ?_
      exact ⟨rfl, h, gw⟩
end Go.Proofs.Ytloflmkolnediaa

/- scan: New, Give, Wants, Found, Loads, Copy (gen3.py writes this). -/
namespace Go.Proofs.Ytloflmkolnediaa
set_option linter.unusedVariables false
set_option linter.unusedSimpArgs false
open Go.RowKit Go.Shelf
set_option maxRecDepth 100000
set_option maxHeartbeats 4000000
theorem none_any (g : Nat) {c0 c1 c2 c3 c4 c5 c6 c7 c8 c9 c10 : Value} {f : Nat} {bd cp : Array Value} {w : World} (h : RowL w g 56 [c0, c1, c2, c3, c4, c5, c6, c7, c8, c9, c10, .func (.func f) bd cp]) : Calls Try.prog 39 #[.pointer (some ⟨g, 0, none⟩)] w fun e w' => e = .returned (.bool false) ∧ w = w' := by
  refine X.fn Try.func39 rfl (n := 12) rfl rfl ?_
  refine CC.seq ?_
  refine CC.region ?_
  refine LL.val (R.assign rfl rfl) rfl rfl rfl ?_
  refine LL.nilS ?_
  refine CC.seq ?_
  refine CC.region ?_
  refine LL.val (R.move rfl rfl) rfl rfl rfl ?_
  refine LL.val (R.eqPtr rfl rfl rfl rfl rfl) rfl rfl rfl ?_
  refine LL.val (R.move rfl rfl) rfl rfl rfl ?_
  refine LL.val (R.move rfl rfl) rfl rfl rfl ?_
  refine LL.val (R.nil rfl rfl) rfl rfl rfl ?_
  refine LL.val (R.field rfl rfl (I.fld rfl)) rfl rfl rfl ?_
  refine LL.val (R.load rfl rfl (I.ld1 rfl (RowL.cell h rfl))) rfl rfl rfl ?_
  refine LL.val (R.eqFn rfl rfl rfl rfl) rfl rfl rfl ?_
  refine LL.val (R.pick rfl rfl rfl) rfl rfl rfl ?_
  refine LL.val (R.assign rfl rfl) rfl rfl rfl ?_
  refine LL.nilS ?_
  refine CC.ret ?_
  refine EE.ret _ rfl rfl ?_
  exact ⟨rfl, rfl⟩
theorem none_0 (w : World) : Calls Try.prog 39 #[.pointer none] w fun e w' => e = .returned (.bool true) ∧ w = w' := by
  refine X.fn Try.func39 rfl (n := 12) rfl rfl ?_
  refine CC.seq ?_
  refine CC.region ?_
  refine LL.val (R.assign rfl rfl) rfl rfl rfl ?_
  refine LL.nilS ?_
  refine CC.seq ?_
  refine CC.region ?_
  refine LL.val (R.move rfl rfl) rfl rfl rfl ?_
  refine LL.val (R.eqPtr rfl rfl rfl rfl rfl) rfl rfl rfl ?_
  refine LL.val (R.move rfl rfl) rfl rfl rfl ?_
  refine LL.skip rfl rfl ?_
  refine LL.skip rfl rfl ?_
  refine LL.skip rfl rfl ?_
  refine LL.skip rfl rfl ?_
  refine LL.skip rfl rfl ?_
  refine LL.val (R.pick rfl rfl rfl) rfl rfl rfl ?_
  refine LL.val (R.assign rfl rfl) rfl rfl rfl ?_
  refine LL.nilS ?_
  refine CC.ret ?_
  refine EE.ret _ rfl rfl ?_
  exact ⟨rfl, rfl⟩
theorem none_Z (g : Nat) {c0 c1 c2 c3 c4 c5 c6 c7 c8 c9 c10 : Value} {w : World} (h : RowL w g 56 [c0, c1, c2, c3, c4, c5, c6, c7, c8, c9, c10, .nilFunc]) : Calls Try.prog 39 #[.pointer (some ⟨g, 0, none⟩)] w fun e w' => e = .returned (.bool true) ∧ w = w' := by
  refine X.fn Try.func39 rfl (n := 12) rfl rfl ?_
  refine CC.seq ?_
  refine CC.region ?_
  refine LL.val (R.assign rfl rfl) rfl rfl rfl ?_
  refine LL.nilS ?_
  refine CC.seq ?_
  refine CC.region ?_
  refine LL.val (R.move rfl rfl) rfl rfl rfl ?_
  refine LL.val (R.eqPtr rfl rfl rfl rfl rfl) rfl rfl rfl ?_
  refine LL.val (R.move rfl rfl) rfl rfl rfl ?_
  refine LL.val (R.move rfl rfl) rfl rfl rfl ?_
  refine LL.val (R.nil rfl rfl) rfl rfl rfl ?_
  refine LL.val (R.field rfl rfl (I.fld rfl)) rfl rfl rfl ?_
  refine LL.val (R.load rfl rfl (I.ld1 rfl (RowL.cell h rfl))) rfl rfl rfl ?_
  (refine LL.val (R.eqFn0 rfl rfl rfl (by kernel_rfl)) rfl rfl rfl ?_)
  refine LL.val (R.pick rfl rfl rfl) rfl rfl rfl ?_
  refine LL.val (R.assign rfl rfl) rfl rfl rfl ?_
  refine LL.nilS ?_
  refine CC.ret ?_
  refine EE.ret _ rfl rfl ?_
  exact ⟨rfl, rfl⟩
theorem rd_fn (g : Nat) (r : Rd) : ∃ f bd cp, nxV g r.k = .func (.func f) bd cp := by
  unfold nxV
  split <;> exact ⟨_, _, _, rfl⟩
theorem give_0 (g v : Nat) {key slots slot ahead ptr loads found : Nat} {is : Bool} {w : World} (h : RowL w g 56 [.int .u64 (key : Int), .int .i64 (slots : Int), .int .i64 (slot : Int), .int .u64 (ahead : Int), .int .u64 (ptr : Int), .int .i64 ((2 * slot : Nat) : Int), .int .i64 (loads : Int), .int .u64 (found : Int), .bool is, .bool false, .int .i64 0, .func (.func 56) #[.pointer (some ⟨g, 0, none⟩)] #[]]) (hs : slot < slots) (hS : slots ≤ 28) (hl : loads ≤ 1000000) : Calls Try.prog 15 #[.pointer (some ⟨g, 0, none⟩), .int .u64 (v : Int)] w fun e w' => e = .returned (.int .i64 0) ∧ RowL w' g 56 (rdR g (giveR ⟨key, slots, slot, ahead, ptr, loads, found, is, false, 0⟩ v)) ∧ Kept (fun j => j < w.heap.size ∧ j ≠ g) w w' := by
  have gw := Gw.refl g w
  refine X.fn Try.func15 rfl (n := 24) rfl rfl ?_
  refine CC.seq ?_
  refine CC.region ?_
  refine LL.val (R.assign rfl rfl) rfl rfl rfl ?_
  refine LL.nilS ?_
  refine CC.seq ?_
  refine CC.seq ?_
  refine CC.region ?_
  refine LL.val (R.move rfl rfl) rfl rfl rfl ?_
  refine LL.call (R.call rfl rfl rfl) rfl rfl rfl (none_any _ (by first | assumption | omega)) ?_
  rintro e W' ⟨rfl, rfl⟩
  refine ⟨_, rfl, ?_⟩
  refine LL.nilS ?_
  refine CC.no rfl ?_
  refine CC.skip ?_
  refine EE.thenN ?_
  refine CC.seq ?_
  refine CC.seq ?_
  refine CC.region ?_
  refine LL.val (R.move rfl rfl) rfl rfl rfl ?_
  refine LL.val (R.nil rfl rfl) rfl rfl rfl ?_
  refine LL.val (R.field rfl rfl (I.fld rfl)) rfl rfl rfl ?_
  refine LL.val (R.load rfl rfl (I.ld1 rfl (RowL.cell h rfl))) rfl rfl rfl ?_
  refine LL.nilS ?_
  refine CC.no rfl ?_
  refine CC.skip ?_
  refine EE.thenN ?_
  refine CC.seq ?_
  refine CC.region ?_
  refine LL.val (R.move rfl rfl) rfl rfl rfl ?_
  refine LL.val (R.nil rfl rfl) rfl rfl rfl ?_
  refine LL.val (R.field rfl rfl (I.fld rfl)) rfl rfl rfl ?_
  refine LL.val (R.load rfl rfl (I.ld1 rfl (RowL.cell h rfl))) rfl rfl rfl ?_
  refine LL.val (R.addNc rfl rfl rfl rfl (by omega)) rfl rfl rfl ?_
  refine LL.val (R.nil rfl rfl) rfl rfl rfl ?_
  refine LL.val (R.field rfl rfl (I.fld rfl)) rfl rfl rfl ?_
  refine LL.store rfl rfl rfl rfl h (by exact Nat.le_of_ble_eq_true rfl) rfl rfl rfl rfl ?_
  intro W107 r108 b106 z109
  have hlb106 := h.lt
  replace r108 : RowL W107 _ 56 [Value.int IntKind.u64 ↑key, Value.int IntKind.i64 ↑slots, Value.int IntKind.i64 ↑slot, Value.int IntKind.u64 ↑ahead, Value.int IntKind.u64 ↑ptr, Value.int IntKind.i64 ↑(2 * slot), Value.int IntKind.i64 ↑(loads + 1), Value.int IntKind.u64 ↑found, Value.bool is, Value.bool false, Value.int IntKind.i64 0, Value.func (Fn.func 56) #[Value.pointer (some { block := g, off := 0 })] #[]] := r108
  clear h
  replace gw := gw.gr b106 (by omega)
  have h := r108
  clear r108
  refine LL.nilS ?_
  refine CC.seq ?_
  refine CC.region ?_
  refine LL.val (R.move rfl rfl) rfl rfl rfl ?_
  refine LL.val (R.nil rfl rfl) rfl rfl rfl ?_
  refine LL.val (R.field rfl rfl (I.fld rfl)) rfl rfl rfl ?_
  refine LL.val (R.load rfl rfl (I.ld1 rfl (RowL.cell h rfl))) rfl rfl rfl ?_
  refine LL.val (R.move rfl rfl) rfl rfl rfl ?_
  (refine LL.call (R.callM rfl rfl rfl rfl) rfl rfl rfl (upKey_any g v h hs hS) ?_; rintro e W148 ⟨rfl, hN, t147⟩; clear h; have h := hN; clear hN; refine ⟨_, rfl, ?_⟩)
  have zt147 := t147.size
  replace gw := gw.kept t147 ⟨by omega, by omega⟩
  refine LL.nilS ?_
  refine CC.seq ?_
  refine CC.region ?_
  refine LL.val (R.assign rfl rfl) rfl rfl rfl ?_
  refine LL.nilS ?_
  refine CC.ret ?_
  refine EE.ret _ rfl rfl ?_
  exact ⟨rfl, h, gw⟩
theorem give_1 (g v : Nat) {key slots slot ahead ptr loads found : Nat} {is : Bool} {w : World} (h : RowL w g 56 [.int .u64 (key : Int), .int .i64 (slots : Int), .int .i64 (slot : Int), .int .u64 (ahead : Int), .int .u64 (ptr : Int), .int .i64 (2 * (slot : Int) - 1), .int .i64 (loads : Int), .int .u64 (found : Int), .bool is, .bool false, .int .i64 1, .func (.func 57) #[.pointer (some ⟨g, 0, none⟩)] #[]]) (hs : slot < slots) (hS : slots ≤ 28) (hl : loads ≤ 1000000) : Calls Try.prog 15 #[.pointer (some ⟨g, 0, none⟩), .int .u64 (v : Int)] w fun e w' => e = .returned (.int .i64 0) ∧ RowL w' g 56 (rdR g (giveR ⟨key, slots, slot, ahead, ptr, loads, found, is, false, 1⟩ v)) ∧ Kept (fun j => j < w.heap.size ∧ j ≠ g) w w' := by
  have gw := Gw.refl g w
  refine X.fn Try.func15 rfl (n := 24) rfl rfl ?_
  refine CC.seq ?_
  refine CC.region ?_
  refine LL.val (R.assign rfl rfl) rfl rfl rfl ?_
  refine LL.nilS ?_
  refine CC.seq ?_
  refine CC.seq ?_
  refine CC.region ?_
  refine LL.val (R.move rfl rfl) rfl rfl rfl ?_
  refine LL.call (R.call rfl rfl rfl) rfl rfl rfl (none_any _ (by first | assumption | omega)) ?_
  rintro e W' ⟨rfl, rfl⟩
  refine ⟨_, rfl, ?_⟩
  refine LL.nilS ?_
  refine CC.no rfl ?_
  refine CC.skip ?_
  refine EE.thenN ?_
  refine CC.seq ?_
  refine CC.seq ?_
  refine CC.region ?_
  refine LL.val (R.move rfl rfl) rfl rfl rfl ?_
  refine LL.val (R.nil rfl rfl) rfl rfl rfl ?_
  refine LL.val (R.field rfl rfl (I.fld rfl)) rfl rfl rfl ?_
  refine LL.val (R.load rfl rfl (I.ld1 rfl (RowL.cell h rfl))) rfl rfl rfl ?_
  refine LL.nilS ?_
  refine CC.no rfl ?_
  refine CC.skip ?_
  refine EE.thenN ?_
  refine CC.seq ?_
  refine CC.region ?_
  refine LL.val (R.move rfl rfl) rfl rfl rfl ?_
  refine LL.val (R.nil rfl rfl) rfl rfl rfl ?_
  refine LL.val (R.field rfl rfl (I.fld rfl)) rfl rfl rfl ?_
  refine LL.val (R.load rfl rfl (I.ld1 rfl (RowL.cell h rfl))) rfl rfl rfl ?_
  refine LL.val (R.addNc rfl rfl rfl rfl (by omega)) rfl rfl rfl ?_
  refine LL.val (R.nil rfl rfl) rfl rfl rfl ?_
  refine LL.val (R.field rfl rfl (I.fld rfl)) rfl rfl rfl ?_
  refine LL.store rfl rfl rfl rfl h (by exact Nat.le_of_ble_eq_true rfl) rfl rfl rfl rfl ?_
  intro W107 r108 b106 z109
  have hlb106 := h.lt
  replace r108 : RowL W107 _ 56 [Value.int IntKind.u64 ↑key, Value.int IntKind.i64 ↑slots, Value.int IntKind.i64 ↑slot, Value.int IntKind.u64 ↑ahead, Value.int IntKind.u64 ↑ptr, Value.int IntKind.i64 (2 * ↑slot - 1), Value.int IntKind.i64 ↑(loads + 1), Value.int IntKind.u64 ↑found, Value.bool is, Value.bool false, Value.int IntKind.i64 1, Value.func (Fn.func 57) #[Value.pointer (some { block := g, off := 0 })] #[]] := r108
  clear h
  replace gw := gw.gr b106 (by omega)
  have h := r108
  clear r108
  refine LL.nilS ?_
  refine CC.seq ?_
  refine CC.region ?_
  refine LL.val (R.move rfl rfl) rfl rfl rfl ?_
  refine LL.val (R.nil rfl rfl) rfl rfl rfl ?_
  refine LL.val (R.field rfl rfl (I.fld rfl)) rfl rfl rfl ?_
  refine LL.val (R.load rfl rfl (I.ld1 rfl (RowL.cell h rfl))) rfl rfl rfl ?_
  refine LL.val (R.move rfl rfl) rfl rfl rfl ?_
  (refine LL.call (R.callM rfl rfl rfl rfl) rfl rfl rfl (upAhead_any g v h hs hS) ?_; rintro e W148 ⟨rfl, hN, t147⟩; clear h; have h := hN; clear hN; refine ⟨_, rfl, ?_⟩)
  have zt147 := t147.size
  replace gw := gw.kept t147 ⟨by omega, by omega⟩
  refine LL.nilS ?_
  refine CC.seq ?_
  refine CC.region ?_
  refine LL.val (R.assign rfl rfl) rfl rfl rfl ?_
  refine LL.nilS ?_
  refine CC.ret ?_
  refine EE.ret _ rfl rfl ?_
  exact ⟨rfl, h, gw⟩
theorem give_2 (g v : Nat) {key slots slot ahead ptr loads found : Nat} {is : Bool} {w : World} (h : RowL w g 56 [.int .u64 (key : Int), .int .i64 (slots : Int), .int .i64 (slot : Int), .int .u64 (ahead : Int), .int .u64 (ptr : Int), .int .i64 ((2 * slot + 1 : Nat) : Int), .int .i64 (loads : Int), .int .u64 (found : Int), .bool is, .bool false, .int .i64 2, .func (.func 58) #[.pointer (some ⟨g, 0, none⟩)] #[]]) (hs : slot < slots) (hS : slots ≤ 28) (hl : loads ≤ 1000000) : Calls Try.prog 15 #[.pointer (some ⟨g, 0, none⟩), .int .u64 (v : Int)] w fun e w' => e = .returned (.int .i64 0) ∧ RowL w' g 56 (rdR g (giveR ⟨key, slots, slot, ahead, ptr, loads, found, is, false, 2⟩ v)) ∧ Kept (fun j => j < w.heap.size ∧ j ≠ g) w w' := by
  have gw := Gw.refl g w
  refine X.fn Try.func15 rfl (n := 24) rfl rfl ?_
  refine CC.seq ?_
  refine CC.region ?_
  refine LL.val (R.assign rfl rfl) rfl rfl rfl ?_
  refine LL.nilS ?_
  refine CC.seq ?_
  refine CC.seq ?_
  refine CC.region ?_
  refine LL.val (R.move rfl rfl) rfl rfl rfl ?_
  refine LL.call (R.call rfl rfl rfl) rfl rfl rfl (none_any _ (by first | assumption | omega)) ?_
  rintro e W' ⟨rfl, rfl⟩
  refine ⟨_, rfl, ?_⟩
  refine LL.nilS ?_
  refine CC.no rfl ?_
  refine CC.skip ?_
  refine EE.thenN ?_
  refine CC.seq ?_
  refine CC.seq ?_
  refine CC.region ?_
  refine LL.val (R.move rfl rfl) rfl rfl rfl ?_
  refine LL.val (R.nil rfl rfl) rfl rfl rfl ?_
  refine LL.val (R.field rfl rfl (I.fld rfl)) rfl rfl rfl ?_
  refine LL.val (R.load rfl rfl (I.ld1 rfl (RowL.cell h rfl))) rfl rfl rfl ?_
  refine LL.nilS ?_
  refine CC.no rfl ?_
  refine CC.skip ?_
  refine EE.thenN ?_
  refine CC.seq ?_
  refine CC.region ?_
  refine LL.val (R.move rfl rfl) rfl rfl rfl ?_
  refine LL.val (R.nil rfl rfl) rfl rfl rfl ?_
  refine LL.val (R.field rfl rfl (I.fld rfl)) rfl rfl rfl ?_
  refine LL.val (R.load rfl rfl (I.ld1 rfl (RowL.cell h rfl))) rfl rfl rfl ?_
  refine LL.val (R.addNc rfl rfl rfl rfl (by omega)) rfl rfl rfl ?_
  refine LL.val (R.nil rfl rfl) rfl rfl rfl ?_
  refine LL.val (R.field rfl rfl (I.fld rfl)) rfl rfl rfl ?_
  refine LL.store rfl rfl rfl rfl h (by exact Nat.le_of_ble_eq_true rfl) rfl rfl rfl rfl ?_
  intro W107 r108 b106 z109
  have hlb106 := h.lt
  replace r108 : RowL W107 _ 56 [Value.int IntKind.u64 ↑key, Value.int IntKind.i64 ↑slots, Value.int IntKind.i64 ↑slot, Value.int IntKind.u64 ↑ahead, Value.int IntKind.u64 ↑ptr, Value.int IntKind.i64 ↑(2 * slot + 1), Value.int IntKind.i64 ↑(loads + 1), Value.int IntKind.u64 ↑found, Value.bool is, Value.bool false, Value.int IntKind.i64 2, Value.func (Fn.func 58) #[Value.pointer (some { block := g, off := 0 })] #[]] := r108
  clear h
  replace gw := gw.gr b106 (by omega)
  have h := r108
  clear r108
  refine LL.nilS ?_
  refine CC.seq ?_
  refine CC.region ?_
  refine LL.val (R.move rfl rfl) rfl rfl rfl ?_
  refine LL.val (R.nil rfl rfl) rfl rfl rfl ?_
  refine LL.val (R.field rfl rfl (I.fld rfl)) rfl rfl rfl ?_
  refine LL.val (R.load rfl rfl (I.ld1 rfl (RowL.cell h rfl))) rfl rfl rfl ?_
  refine LL.val (R.move rfl rfl) rfl rfl rfl ?_
  (refine LL.call (R.callM rfl rfl rfl rfl) rfl rfl rfl (upPtr_any g v h hs hS) ?_; rintro e W148 ⟨rfl, hN, t147⟩; clear h; have h := hN; clear hN; refine ⟨_, rfl, ?_⟩)
  have zt147 := t147.size
  replace gw := gw.kept t147 ⟨by omega, by omega⟩
  refine LL.nilS ?_
  refine CC.seq ?_
  refine CC.region ?_
  refine LL.val (R.assign rfl rfl) rfl rfl rfl ?_
  refine LL.nilS ?_
  refine CC.ret ?_
  refine EE.ret _ rfl rfl ?_
  exact ⟨rfl, h, gw⟩
theorem give_3 (g v : Nat) {key slots slot ahead ptr loads found : Nat} {is : Bool} {w : World} (h : RowL w g 56 [.int .u64 (key : Int), .int .i64 (slots : Int), .int .i64 (slot : Int), .int .u64 (ahead : Int), .int .u64 (ptr : Int), .int .i64 ((2 * slot : Nat) : Int), .int .i64 (loads : Int), .int .u64 (found : Int), .bool is, .bool false, .int .i64 3, .func (.func 59) #[.pointer (some ⟨g, 0, none⟩)] #[]]) (hs : slot < slots) (hS : slots ≤ 28) (hl : loads ≤ 1000000) : Calls Try.prog 15 #[.pointer (some ⟨g, 0, none⟩), .int .u64 (v : Int)] w fun e w' => e = .returned (.int .i64 0) ∧ RowL w' g 56 (rdR g (giveR ⟨key, slots, slot, ahead, ptr, loads, found, is, false, 3⟩ v)) ∧ Kept (fun j => j < w.heap.size ∧ j ≠ g) w w' := by
  have gw := Gw.refl g w
  refine X.fn Try.func15 rfl (n := 24) rfl rfl ?_
  refine CC.seq ?_
  refine CC.region ?_
  refine LL.val (R.assign rfl rfl) rfl rfl rfl ?_
  refine LL.nilS ?_
  refine CC.seq ?_
  refine CC.seq ?_
  refine CC.region ?_
  refine LL.val (R.move rfl rfl) rfl rfl rfl ?_
  refine LL.call (R.call rfl rfl rfl) rfl rfl rfl (none_any _ (by first | assumption | omega)) ?_
  rintro e W' ⟨rfl, rfl⟩
  refine ⟨_, rfl, ?_⟩
  refine LL.nilS ?_
  refine CC.no rfl ?_
  refine CC.skip ?_
  refine EE.thenN ?_
  refine CC.seq ?_
  refine CC.seq ?_
  refine CC.region ?_
  refine LL.val (R.move rfl rfl) rfl rfl rfl ?_
  refine LL.val (R.nil rfl rfl) rfl rfl rfl ?_
  refine LL.val (R.field rfl rfl (I.fld rfl)) rfl rfl rfl ?_
  refine LL.val (R.load rfl rfl (I.ld1 rfl (RowL.cell h rfl))) rfl rfl rfl ?_
  refine LL.nilS ?_
  refine CC.no rfl ?_
  refine CC.skip ?_
  refine EE.thenN ?_
  refine CC.seq ?_
  refine CC.region ?_
  refine LL.val (R.move rfl rfl) rfl rfl rfl ?_
  refine LL.val (R.nil rfl rfl) rfl rfl rfl ?_
  refine LL.val (R.field rfl rfl (I.fld rfl)) rfl rfl rfl ?_
  refine LL.val (R.load rfl rfl (I.ld1 rfl (RowL.cell h rfl))) rfl rfl rfl ?_
  refine LL.val (R.addNc rfl rfl rfl rfl (by omega)) rfl rfl rfl ?_
  refine LL.val (R.nil rfl rfl) rfl rfl rfl ?_
  refine LL.val (R.field rfl rfl (I.fld rfl)) rfl rfl rfl ?_
  refine LL.store rfl rfl rfl rfl h (by exact Nat.le_of_ble_eq_true rfl) rfl rfl rfl rfl ?_
  intro W107 r108 b106 z109
  have hlb106 := h.lt
  replace r108 : RowL W107 _ 56 [Value.int IntKind.u64 ↑key, Value.int IntKind.i64 ↑slots, Value.int IntKind.i64 ↑slot, Value.int IntKind.u64 ↑ahead, Value.int IntKind.u64 ↑ptr, Value.int IntKind.i64 ↑(2 * slot), Value.int IntKind.i64 ↑(loads + 1), Value.int IntKind.u64 ↑found, Value.bool is, Value.bool false, Value.int IntKind.i64 3, Value.func (Fn.func 59) #[Value.pointer (some { block := g, off := 0 })] #[]] := r108
  clear h
  replace gw := gw.gr b106 (by omega)
  have h := r108
  clear r108
  refine LL.nilS ?_
  refine CC.seq ?_
  refine CC.region ?_
  refine LL.val (R.move rfl rfl) rfl rfl rfl ?_
  refine LL.val (R.nil rfl rfl) rfl rfl rfl ?_
  refine LL.val (R.field rfl rfl (I.fld rfl)) rfl rfl rfl ?_
  refine LL.val (R.load rfl rfl (I.ld1 rfl (RowL.cell h rfl))) rfl rfl rfl ?_
  refine LL.val (R.move rfl rfl) rfl rfl rfl ?_
  (refine LL.call (R.callM rfl rfl rfl rfl) rfl rfl rfl (upAgain_any g v h hs hS) ?_; rintro e W148 ⟨rfl, hN, t147⟩; clear h; have h := hN; clear hN; refine ⟨_, rfl, ?_⟩)
  have zt147 := t147.size
  replace gw := gw.kept t147 ⟨by omega, by omega⟩
  refine LL.nilS ?_
  refine CC.seq ?_
  refine CC.region ?_
  refine LL.val (R.assign rfl rfl) rfl rfl rfl ?_
  refine LL.nilS ?_
  refine CC.ret ?_
  refine EE.ret _ rfl rfl ?_
  exact ⟨rfl, h, gw⟩
theorem give_4 (g v : Nat) {key slots slot ahead ptr loads found : Nat} {is : Bool} {w : World} (h : RowL w g 56 [.int .u64 (key : Int), .int .i64 (slots : Int), .int .i64 (slot : Int), .int .u64 (ahead : Int), .int .u64 (ptr : Int), .int .i64 ((2 * slot + 1 : Nat) : Int), .int .i64 (loads : Int), .int .u64 (found : Int), .bool is, .bool false, .int .i64 4, .func (.func 60) #[.pointer (some ⟨g, 0, none⟩)] #[]]) (hs : slot < slots) (hS : slots ≤ 28) (hl : loads ≤ 1000000) : Calls Try.prog 15 #[.pointer (some ⟨g, 0, none⟩), .int .u64 (v : Int)] w fun e w' => e = .returned (.int .i64 0) ∧ RowL w' g 56 (rdR g (giveR ⟨key, slots, slot, ahead, ptr, loads, found, is, false, 4⟩ v)) ∧ Kept (fun j => j < w.heap.size ∧ j ≠ g) w w' := by
  have gw := Gw.refl g w
  refine X.fn Try.func15 rfl (n := 24) rfl rfl ?_
  refine CC.seq ?_
  refine CC.region ?_
  refine LL.val (R.assign rfl rfl) rfl rfl rfl ?_
  refine LL.nilS ?_
  refine CC.seq ?_
  refine CC.seq ?_
  refine CC.region ?_
  refine LL.val (R.move rfl rfl) rfl rfl rfl ?_
  refine LL.call (R.call rfl rfl rfl) rfl rfl rfl (none_any _ (by first | assumption | omega)) ?_
  rintro e W' ⟨rfl, rfl⟩
  refine ⟨_, rfl, ?_⟩
  refine LL.nilS ?_
  refine CC.no rfl ?_
  refine CC.skip ?_
  refine EE.thenN ?_
  refine CC.seq ?_
  refine CC.seq ?_
  refine CC.region ?_
  refine LL.val (R.move rfl rfl) rfl rfl rfl ?_
  refine LL.val (R.nil rfl rfl) rfl rfl rfl ?_
  refine LL.val (R.field rfl rfl (I.fld rfl)) rfl rfl rfl ?_
  refine LL.val (R.load rfl rfl (I.ld1 rfl (RowL.cell h rfl))) rfl rfl rfl ?_
  refine LL.nilS ?_
  refine CC.no rfl ?_
  refine CC.skip ?_
  refine EE.thenN ?_
  refine CC.seq ?_
  refine CC.region ?_
  refine LL.val (R.move rfl rfl) rfl rfl rfl ?_
  refine LL.val (R.nil rfl rfl) rfl rfl rfl ?_
  refine LL.val (R.field rfl rfl (I.fld rfl)) rfl rfl rfl ?_
  refine LL.val (R.load rfl rfl (I.ld1 rfl (RowL.cell h rfl))) rfl rfl rfl ?_
  refine LL.val (R.addNc rfl rfl rfl rfl (by omega)) rfl rfl rfl ?_
  refine LL.val (R.nil rfl rfl) rfl rfl rfl ?_
  refine LL.val (R.field rfl rfl (I.fld rfl)) rfl rfl rfl ?_
  refine LL.store rfl rfl rfl rfl h (by exact Nat.le_of_ble_eq_true rfl) rfl rfl rfl rfl ?_
  intro W107 r108 b106 z109
  have hlb106 := h.lt
  replace r108 : RowL W107 _ 56 [Value.int IntKind.u64 ↑key, Value.int IntKind.i64 ↑slots, Value.int IntKind.i64 ↑slot, Value.int IntKind.u64 ↑ahead, Value.int IntKind.u64 ↑ptr, Value.int IntKind.i64 ↑(2 * slot + 1), Value.int IntKind.i64 ↑(loads + 1), Value.int IntKind.u64 ↑found, Value.bool is, Value.bool false, Value.int IntKind.i64 4, Value.func (Fn.func 60) #[Value.pointer (some { block := g, off := 0 })] #[]] := r108
  clear h
  replace gw := gw.gr b106 (by omega)
  have h := r108
  clear r108
  refine LL.nilS ?_
  refine CC.seq ?_
  refine CC.region ?_
  refine LL.val (R.move rfl rfl) rfl rfl rfl ?_
  refine LL.val (R.nil rfl rfl) rfl rfl rfl ?_
  refine LL.val (R.field rfl rfl (I.fld rfl)) rfl rfl rfl ?_
  refine LL.val (R.load rfl rfl (I.ld1 rfl (RowL.cell h rfl))) rfl rfl rfl ?_
  refine LL.val (R.move rfl rfl) rfl rfl rfl ?_
  (refine LL.call (R.callM rfl rfl rfl rfl) rfl rfl rfl (upOn_any g v h hs hS) ?_; rintro e W148 ⟨rfl, hN, t147⟩; clear h; have h := hN; clear hN; refine ⟨_, rfl, ?_⟩)
  have zt147 := t147.size
  replace gw := gw.kept t147 ⟨by omega, by omega⟩
  refine LL.nilS ?_
  refine CC.seq ?_
  refine CC.region ?_
  refine LL.val (R.assign rfl rfl) rfl rfl rfl ?_
  refine LL.nilS ?_
  refine CC.ret ?_
  refine EE.ret _ rfl rfl ?_
  exact ⟨rfl, h, gw⟩
theorem give_5 (g v : Nat) {key slots slot ahead ptr loads found : Nat} {is : Bool} {w : World} (h : RowL w g 56 [.int .u64 (key : Int), .int .i64 (slots : Int), .int .i64 (slot : Int), .int .u64 (ahead : Int), .int .u64 (ptr : Int), .int .i64 ((2 * slot : Nat) : Int), .int .i64 (loads : Int), .int .u64 (found : Int), .bool is, .bool false, .int .i64 5, .func (.func 61) #[.pointer (some ⟨g, 0, none⟩)] #[]]) (hs : slot < slots) (hS : slots ≤ 28) (hl : loads ≤ 1000000) : Calls Try.prog 15 #[.pointer (some ⟨g, 0, none⟩), .int .u64 (v : Int)] w fun e w' => e = .returned (.int .i64 0) ∧ RowL w' g 56 (rdR g (giveR ⟨key, slots, slot, ahead, ptr, loads, found, is, false, 5⟩ v)) ∧ Kept (fun j => j < w.heap.size ∧ j ≠ g) w w' := by
  have gw := Gw.refl g w
  refine X.fn Try.func15 rfl (n := 24) rfl rfl ?_
  refine CC.seq ?_
  refine CC.region ?_
  refine LL.val (R.assign rfl rfl) rfl rfl rfl ?_
  refine LL.nilS ?_
  refine CC.seq ?_
  refine CC.seq ?_
  refine CC.region ?_
  refine LL.val (R.move rfl rfl) rfl rfl rfl ?_
  refine LL.call (R.call rfl rfl rfl) rfl rfl rfl (none_any _ (by first | assumption | omega)) ?_
  rintro e W' ⟨rfl, rfl⟩
  refine ⟨_, rfl, ?_⟩
  refine LL.nilS ?_
  refine CC.no rfl ?_
  refine CC.skip ?_
  refine EE.thenN ?_
  refine CC.seq ?_
  refine CC.seq ?_
  refine CC.region ?_
  refine LL.val (R.move rfl rfl) rfl rfl rfl ?_
  refine LL.val (R.nil rfl rfl) rfl rfl rfl ?_
  refine LL.val (R.field rfl rfl (I.fld rfl)) rfl rfl rfl ?_
  refine LL.val (R.load rfl rfl (I.ld1 rfl (RowL.cell h rfl))) rfl rfl rfl ?_
  refine LL.nilS ?_
  refine CC.no rfl ?_
  refine CC.skip ?_
  refine EE.thenN ?_
  refine CC.seq ?_
  refine CC.region ?_
  refine LL.val (R.move rfl rfl) rfl rfl rfl ?_
  refine LL.val (R.nil rfl rfl) rfl rfl rfl ?_
  refine LL.val (R.field rfl rfl (I.fld rfl)) rfl rfl rfl ?_
  refine LL.val (R.load rfl rfl (I.ld1 rfl (RowL.cell h rfl))) rfl rfl rfl ?_
  refine LL.val (R.addNc rfl rfl rfl rfl (by omega)) rfl rfl rfl ?_
  refine LL.val (R.nil rfl rfl) rfl rfl rfl ?_
  refine LL.val (R.field rfl rfl (I.fld rfl)) rfl rfl rfl ?_
  refine LL.store rfl rfl rfl rfl h (by exact Nat.le_of_ble_eq_true rfl) rfl rfl rfl rfl ?_
  intro W107 r108 b106 z109
  have hlb106 := h.lt
  replace r108 : RowL W107 _ 56 [Value.int IntKind.u64 ↑key, Value.int IntKind.i64 ↑slots, Value.int IntKind.i64 ↑slot, Value.int IntKind.u64 ↑ahead, Value.int IntKind.u64 ↑ptr, Value.int IntKind.i64 ↑(2 * slot), Value.int IntKind.i64 ↑(loads + 1), Value.int IntKind.u64 ↑found, Value.bool is, Value.bool false, Value.int IntKind.i64 5, Value.func (Fn.func 61) #[Value.pointer (some { block := g, off := 0 })] #[]] := r108
  clear h
  replace gw := gw.gr b106 (by omega)
  have h := r108
  clear r108
  refine LL.nilS ?_
  refine CC.seq ?_
  refine CC.region ?_
  refine LL.val (R.move rfl rfl) rfl rfl rfl ?_
  refine LL.val (R.nil rfl rfl) rfl rfl rfl ?_
  refine LL.val (R.field rfl rfl (I.fld rfl)) rfl rfl rfl ?_
  refine LL.val (R.load rfl rfl (I.ld1 rfl (RowL.cell h rfl))) rfl rfl rfl ?_
  refine LL.val (R.move rfl rfl) rfl rfl rfl ?_
  (refine LL.call (R.callM rfl rfl rfl rfl) rfl rfl rfl (downKey_any g v h hs hS) ?_; rintro e W148 ⟨rfl, hN, t147⟩; clear h; have h := hN; clear hN; refine ⟨_, rfl, ?_⟩)
  have zt147 := t147.size
  replace gw := gw.kept t147 ⟨by omega, by omega⟩
  refine LL.nilS ?_
  refine CC.seq ?_
  refine CC.region ?_
  refine LL.val (R.assign rfl rfl) rfl rfl rfl ?_
  refine LL.nilS ?_
  refine CC.ret ?_
  refine EE.ret _ rfl rfl ?_
  exact ⟨rfl, h, gw⟩
theorem give_6 (g v : Nat) {key slots slot ahead ptr loads found : Nat} {is : Bool} {w : World} (h : RowL w g 56 [.int .u64 (key : Int), .int .i64 (slots : Int), .int .i64 (slot : Int), .int .u64 (ahead : Int), .int .u64 (ptr : Int), .int .i64 ((2 * slot + 1 : Nat) : Int), .int .i64 (loads : Int), .int .u64 (found : Int), .bool is, .bool false, .int .i64 6, .func (.func 62) #[.pointer (some ⟨g, 0, none⟩)] #[]]) (hs : slot < slots) (hS : slots ≤ 28) (hl : loads ≤ 1000000) : Calls Try.prog 15 #[.pointer (some ⟨g, 0, none⟩), .int .u64 (v : Int)] w fun e w' => e = .returned (.int .i64 0) ∧ RowL w' g 56 (rdR g (giveR ⟨key, slots, slot, ahead, ptr, loads, found, is, false, 6⟩ v)) ∧ Kept (fun j => j < w.heap.size ∧ j ≠ g) w w' := by
  have gw := Gw.refl g w
  refine X.fn Try.func15 rfl (n := 24) rfl rfl ?_
  refine CC.seq ?_
  refine CC.region ?_
  refine LL.val (R.assign rfl rfl) rfl rfl rfl ?_
  refine LL.nilS ?_
  refine CC.seq ?_
  refine CC.seq ?_
  refine CC.region ?_
  refine LL.val (R.move rfl rfl) rfl rfl rfl ?_
  refine LL.call (R.call rfl rfl rfl) rfl rfl rfl (none_any _ (by first | assumption | omega)) ?_
  rintro e W' ⟨rfl, rfl⟩
  refine ⟨_, rfl, ?_⟩
  refine LL.nilS ?_
  refine CC.no rfl ?_
  refine CC.skip ?_
  refine EE.thenN ?_
  refine CC.seq ?_
  refine CC.seq ?_
  refine CC.region ?_
  refine LL.val (R.move rfl rfl) rfl rfl rfl ?_
  refine LL.val (R.nil rfl rfl) rfl rfl rfl ?_
  refine LL.val (R.field rfl rfl (I.fld rfl)) rfl rfl rfl ?_
  refine LL.val (R.load rfl rfl (I.ld1 rfl (RowL.cell h rfl))) rfl rfl rfl ?_
  refine LL.nilS ?_
  refine CC.no rfl ?_
  refine CC.skip ?_
  refine EE.thenN ?_
  refine CC.seq ?_
  refine CC.region ?_
  refine LL.val (R.move rfl rfl) rfl rfl rfl ?_
  refine LL.val (R.nil rfl rfl) rfl rfl rfl ?_
  refine LL.val (R.field rfl rfl (I.fld rfl)) rfl rfl rfl ?_
  refine LL.val (R.load rfl rfl (I.ld1 rfl (RowL.cell h rfl))) rfl rfl rfl ?_
  refine LL.val (R.addNc rfl rfl rfl rfl (by omega)) rfl rfl rfl ?_
  refine LL.val (R.nil rfl rfl) rfl rfl rfl ?_
  refine LL.val (R.field rfl rfl (I.fld rfl)) rfl rfl rfl ?_
  refine LL.store rfl rfl rfl rfl h (by exact Nat.le_of_ble_eq_true rfl) rfl rfl rfl rfl ?_
  intro W107 r108 b106 z109
  have hlb106 := h.lt
  replace r108 : RowL W107 _ 56 [Value.int IntKind.u64 ↑key, Value.int IntKind.i64 ↑slots, Value.int IntKind.i64 ↑slot, Value.int IntKind.u64 ↑ahead, Value.int IntKind.u64 ↑ptr, Value.int IntKind.i64 ↑(2 * slot + 1), Value.int IntKind.i64 ↑(loads + 1), Value.int IntKind.u64 ↑found, Value.bool is, Value.bool false, Value.int IntKind.i64 6, Value.func (Fn.func 62) #[Value.pointer (some { block := g, off := 0 })] #[]] := r108
  clear h
  replace gw := gw.gr b106 (by omega)
  have h := r108
  clear r108
  refine LL.nilS ?_
  refine CC.seq ?_
  refine CC.region ?_
  refine LL.val (R.move rfl rfl) rfl rfl rfl ?_
  refine LL.val (R.nil rfl rfl) rfl rfl rfl ?_
  refine LL.val (R.field rfl rfl (I.fld rfl)) rfl rfl rfl ?_
  refine LL.val (R.load rfl rfl (I.ld1 rfl (RowL.cell h rfl))) rfl rfl rfl ?_
  refine LL.val (R.move rfl rfl) rfl rfl rfl ?_
  (refine LL.call (R.callM rfl rfl rfl rfl) rfl rfl rfl (downPtr_any g v h hs hS) ?_; rintro e W148 ⟨rfl, hN, t147⟩; clear h; have h := hN; clear hN; refine ⟨_, rfl, ?_⟩)
  have zt147 := t147.size
  replace gw := gw.kept t147 ⟨by omega, by omega⟩
  refine LL.nilS ?_
  refine CC.seq ?_
  refine CC.region ?_
  refine LL.val (R.assign rfl rfl) rfl rfl rfl ?_
  refine LL.nilS ?_
  refine CC.ret ?_
  refine EE.ret _ rfl rfl ?_
  exact ⟨rfl, h, gw⟩
theorem give_7 (g v : Nat) {key slots slot ahead ptr loads found : Nat} {is : Bool} {w : World} (h : RowL w g 56 [.int .u64 (key : Int), .int .i64 (slots : Int), .int .i64 (slot : Int), .int .u64 (ahead : Int), .int .u64 (ptr : Int), .int .i64 (2 * (slot : Int) - 1), .int .i64 (loads : Int), .int .u64 (found : Int), .bool is, .bool false, .int .i64 7, .func (.func 63) #[.pointer (some ⟨g, 0, none⟩)] #[]]) (hs : slot < slots) (hS : slots ≤ 28) (hl : loads ≤ 1000000) : Calls Try.prog 15 #[.pointer (some ⟨g, 0, none⟩), .int .u64 (v : Int)] w fun e w' => e = .returned (.int .i64 0) ∧ RowL w' g 56 (rdR g (giveR ⟨key, slots, slot, ahead, ptr, loads, found, is, false, 7⟩ v)) ∧ Kept (fun j => j < w.heap.size ∧ j ≠ g) w w' := by
  have gw := Gw.refl g w
  refine X.fn Try.func15 rfl (n := 24) rfl rfl ?_
  refine CC.seq ?_
  refine CC.region ?_
  refine LL.val (R.assign rfl rfl) rfl rfl rfl ?_
  refine LL.nilS ?_
  refine CC.seq ?_
  refine CC.seq ?_
  refine CC.region ?_
  refine LL.val (R.move rfl rfl) rfl rfl rfl ?_
  refine LL.call (R.call rfl rfl rfl) rfl rfl rfl (none_any _ (by first | assumption | omega)) ?_
  rintro e W' ⟨rfl, rfl⟩
  refine ⟨_, rfl, ?_⟩
  refine LL.nilS ?_
  refine CC.no rfl ?_
  refine CC.skip ?_
  refine EE.thenN ?_
  refine CC.seq ?_
  refine CC.seq ?_
  refine CC.region ?_
  refine LL.val (R.move rfl rfl) rfl rfl rfl ?_
  refine LL.val (R.nil rfl rfl) rfl rfl rfl ?_
  refine LL.val (R.field rfl rfl (I.fld rfl)) rfl rfl rfl ?_
  refine LL.val (R.load rfl rfl (I.ld1 rfl (RowL.cell h rfl))) rfl rfl rfl ?_
  refine LL.nilS ?_
  refine CC.no rfl ?_
  refine CC.skip ?_
  refine EE.thenN ?_
  refine CC.seq ?_
  refine CC.region ?_
  refine LL.val (R.move rfl rfl) rfl rfl rfl ?_
  refine LL.val (R.nil rfl rfl) rfl rfl rfl ?_
  refine LL.val (R.field rfl rfl (I.fld rfl)) rfl rfl rfl ?_
  refine LL.val (R.load rfl rfl (I.ld1 rfl (RowL.cell h rfl))) rfl rfl rfl ?_
  refine LL.val (R.addNc rfl rfl rfl rfl (by omega)) rfl rfl rfl ?_
  refine LL.val (R.nil rfl rfl) rfl rfl rfl ?_
  refine LL.val (R.field rfl rfl (I.fld rfl)) rfl rfl rfl ?_
  refine LL.store rfl rfl rfl rfl h (by exact Nat.le_of_ble_eq_true rfl) rfl rfl rfl rfl ?_
  intro W107 r108 b106 z109
  have hlb106 := h.lt
  replace r108 : RowL W107 _ 56 [Value.int IntKind.u64 ↑key, Value.int IntKind.i64 ↑slots, Value.int IntKind.i64 ↑slot, Value.int IntKind.u64 ↑ahead, Value.int IntKind.u64 ↑ptr, Value.int IntKind.i64 (2 * ↑slot - 1), Value.int IntKind.i64 ↑(loads + 1), Value.int IntKind.u64 ↑found, Value.bool is, Value.bool false, Value.int IntKind.i64 7, Value.func (Fn.func 63) #[Value.pointer (some { block := g, off := 0 })] #[]] := r108
  clear h
  replace gw := gw.gr b106 (by omega)
  have h := r108
  clear r108
  refine LL.nilS ?_
  refine CC.seq ?_
  refine CC.region ?_
  refine LL.val (R.move rfl rfl) rfl rfl rfl ?_
  refine LL.val (R.nil rfl rfl) rfl rfl rfl ?_
  refine LL.val (R.field rfl rfl (I.fld rfl)) rfl rfl rfl ?_
  refine LL.val (R.load rfl rfl (I.ld1 rfl (RowL.cell h rfl))) rfl rfl rfl ?_
  refine LL.val (R.move rfl rfl) rfl rfl rfl ?_
  (refine LL.call (R.callM rfl rfl rfl rfl) rfl rfl rfl (downAhead_any g v h hs hS) ?_; rintro e W148 ⟨rfl, hN, t147⟩; clear h; have h := hN; clear hN; refine ⟨_, rfl, ?_⟩)
  have zt147 := t147.size
  replace gw := gw.kept t147 ⟨by omega, by omega⟩
  refine LL.nilS ?_
  refine CC.seq ?_
  refine CC.region ?_
  refine LL.val (R.assign rfl rfl) rfl rfl rfl ?_
  refine LL.nilS ?_
  refine CC.ret ?_
  refine EE.ret _ rfl rfl ?_
  exact ⟨rfl, h, gw⟩
theorem give_8 (g v : Nat) {key slots slot ahead ptr loads found : Nat} {is : Bool} {w : World} (h : RowL w g 56 [.int .u64 (key : Int), .int .i64 (slots : Int), .int .i64 (slot : Int), .int .u64 (ahead : Int), .int .u64 (ptr : Int), .int .i64 ((2 * slot : Nat) : Int), .int .i64 (loads : Int), .int .u64 (found : Int), .bool is, .bool false, .int .i64 8, .func (.func 64) #[.pointer (some ⟨g, 0, none⟩)] #[]]) (hs : slot < slots) (hS : slots ≤ 28) (hl : loads ≤ 1000000) : Calls Try.prog 15 #[.pointer (some ⟨g, 0, none⟩), .int .u64 (v : Int)] w fun e w' => e = .returned (.int .i64 0) ∧ RowL w' g 56 (rdR g (giveR ⟨key, slots, slot, ahead, ptr, loads, found, is, false, 8⟩ v)) ∧ Kept (fun j => j < w.heap.size ∧ j ≠ g) w w' := by
  have gw := Gw.refl g w
  refine X.fn Try.func15 rfl (n := 24) rfl rfl ?_
  refine CC.seq ?_
  refine CC.region ?_
  refine LL.val (R.assign rfl rfl) rfl rfl rfl ?_
  refine LL.nilS ?_
  refine CC.seq ?_
  refine CC.seq ?_
  refine CC.region ?_
  refine LL.val (R.move rfl rfl) rfl rfl rfl ?_
  refine LL.call (R.call rfl rfl rfl) rfl rfl rfl (none_any _ (by first | assumption | omega)) ?_
  rintro e W' ⟨rfl, rfl⟩
  refine ⟨_, rfl, ?_⟩
  refine LL.nilS ?_
  refine CC.no rfl ?_
  refine CC.skip ?_
  refine EE.thenN ?_
  refine CC.seq ?_
  refine CC.seq ?_
  refine CC.region ?_
  refine LL.val (R.move rfl rfl) rfl rfl rfl ?_
  refine LL.val (R.nil rfl rfl) rfl rfl rfl ?_
  refine LL.val (R.field rfl rfl (I.fld rfl)) rfl rfl rfl ?_
  refine LL.val (R.load rfl rfl (I.ld1 rfl (RowL.cell h rfl))) rfl rfl rfl ?_
  refine LL.nilS ?_
  refine CC.no rfl ?_
  refine CC.skip ?_
  refine EE.thenN ?_
  refine CC.seq ?_
  refine CC.region ?_
  refine LL.val (R.move rfl rfl) rfl rfl rfl ?_
  refine LL.val (R.nil rfl rfl) rfl rfl rfl ?_
  refine LL.val (R.field rfl rfl (I.fld rfl)) rfl rfl rfl ?_
  refine LL.val (R.load rfl rfl (I.ld1 rfl (RowL.cell h rfl))) rfl rfl rfl ?_
  refine LL.val (R.addNc rfl rfl rfl rfl (by omega)) rfl rfl rfl ?_
  refine LL.val (R.nil rfl rfl) rfl rfl rfl ?_
  refine LL.val (R.field rfl rfl (I.fld rfl)) rfl rfl rfl ?_
  refine LL.store rfl rfl rfl rfl h (by exact Nat.le_of_ble_eq_true rfl) rfl rfl rfl rfl ?_
  intro W107 r108 b106 z109
  have hlb106 := h.lt
  replace r108 : RowL W107 _ 56 [Value.int IntKind.u64 ↑key, Value.int IntKind.i64 ↑slots, Value.int IntKind.i64 ↑slot, Value.int IntKind.u64 ↑ahead, Value.int IntKind.u64 ↑ptr, Value.int IntKind.i64 ↑(2 * slot), Value.int IntKind.i64 ↑(loads + 1), Value.int IntKind.u64 ↑found, Value.bool is, Value.bool false, Value.int IntKind.i64 8, Value.func (Fn.func 64) #[Value.pointer (some { block := g, off := 0 })] #[]] := r108
  clear h
  replace gw := gw.gr b106 (by omega)
  have h := r108
  clear r108
  refine LL.nilS ?_
  refine CC.seq ?_
  refine CC.region ?_
  refine LL.val (R.move rfl rfl) rfl rfl rfl ?_
  refine LL.val (R.nil rfl rfl) rfl rfl rfl ?_
  refine LL.val (R.field rfl rfl (I.fld rfl)) rfl rfl rfl ?_
  refine LL.val (R.load rfl rfl (I.ld1 rfl (RowL.cell h rfl))) rfl rfl rfl ?_
  refine LL.val (R.move rfl rfl) rfl rfl rfl ?_
  (refine LL.call (R.callM rfl rfl rfl rfl) rfl rfl rfl (downAgain_any g v h hs hS) ?_; rintro e W148 ⟨rfl, hN, t147⟩; clear h; have h := hN; clear hN; refine ⟨_, rfl, ?_⟩)
  have zt147 := t147.size
  replace gw := gw.kept t147 ⟨by omega, by omega⟩
  refine LL.nilS ?_
  refine CC.seq ?_
  refine CC.region ?_
  refine LL.val (R.assign rfl rfl) rfl rfl rfl ?_
  refine LL.nilS ?_
  refine CC.ret ?_
  refine EE.ret _ rfl rfl ?_
  exact ⟨rfl, h, gw⟩
theorem give_any (g v : Nat) (r : Rd) {w : World} (h : RowL w g 56 (rdR g r)) (hk : r.k ≤ 8) (hd : r.dn = false) (hs : r.slot < r.slots) (hS : r.slots ≤ 28) (hl : r.loads ≤ 1000000) : Calls Try.prog 15 #[.pointer (some ⟨g, 0, none⟩), .int .u64 (v : Int)] w fun e w' => e = .returned (.int .i64 0) ∧ RowL w' g 56 (rdR g (giveR r v)) ∧ Kept (fun j => j < w.heap.size ∧ j ≠ g) w w' := by
  obtain ⟨key, slots, slot, ahead, ptr, loads, found, is, dn, k⟩ := r
  simp only at hk hd hs hS hl
  subst hd
  rcases (by omega : k = 0 ∨ k = 1 ∨ k = 2 ∨ k = 3 ∨ k = 4 ∨ k = 5 ∨ k = 6 ∨ k = 7 ∨ k = 8) with rfl | rfl | rfl | rfl | rfl | rfl | rfl | rfl | rfl
  · exact give_0 g v h hs hS hl
  · exact give_1 g v h hs hS hl
  · exact give_2 g v h hs hS hl
  · exact give_3 g v h hs hS hl
  · exact give_4 g v h hs hS hl
  · exact give_5 g v h hs hS hl
  · exact give_6 g v h hs hS hl
  · exact give_7 g v h hs hS hl
  · exact give_8 g v h hs hS hl
theorem give_D (g : Nat) (v : Int) {key slots slot ahead ptr loads found k : Nat} {wn : Value} {f : Nat} {bd cp : Array Value} {is : Bool} {w : World} (h : RowL w g 56 [.int .u64 (key : Int), .int .i64 (slots : Int), .int .i64 (slot : Int), .int .u64 (ahead : Int), .int .u64 (ptr : Int), wn, .int .i64 (loads : Int), .int .u64 (found : Int), .bool is, .bool true, .int .i64 (k : Int), .func (.func f) bd cp]) : Calls Try.prog 15 #[.pointer (some ⟨g, 0, none⟩), .int .u64 v] w fun e w' => e = .returned (.int .i64 5) ∧ w = w' := by
  refine X.fn Try.func15 rfl (n := 24) rfl rfl ?_
  refine CC.seq ?_
  refine CC.region ?_
  refine LL.val (R.assign rfl rfl) rfl rfl rfl ?_
  refine LL.nilS ?_
  refine CC.seq ?_
  refine CC.seq ?_
  refine CC.region ?_
  refine LL.val (R.move rfl rfl) rfl rfl rfl ?_
  refine LL.call (R.call rfl rfl rfl) rfl rfl rfl (none_any _ (by first | assumption | omega)) ?_
  rintro e W' ⟨rfl, rfl⟩
  refine ⟨_, rfl, ?_⟩
  refine LL.nilS ?_
  refine CC.no rfl ?_
  refine CC.skip ?_
  refine EE.thenN ?_
  refine CC.seq ?_
  refine CC.seq ?_
  refine CC.region ?_
  refine LL.val (R.move rfl rfl) rfl rfl rfl ?_
  refine LL.val (R.nil rfl rfl) rfl rfl rfl ?_
  refine LL.val (R.field rfl rfl (I.fld rfl)) rfl rfl rfl ?_
  refine LL.val (R.load rfl rfl (I.ld1 rfl (RowL.cell h rfl))) rfl rfl rfl ?_
  refine LL.nilS ?_
  refine CC.yes rfl ?_
  refine CC.seq ?_
  refine CC.region ?_
  refine LL.val (R.assign rfl rfl) rfl rfl rfl ?_
  refine LL.nilS ?_
  refine CC.ret ?_
  refine EE.thenR ?_
  refine EE.ret _ rfl rfl ?_
  exact ⟨rfl, rfl⟩
theorem wants_N (g : Nat) {key slots slot ahead ptr loads found k : Nat} {wn : Value} {f : Nat} {bd cp : Array Value} {is : Bool} {w : World} (h : RowL w g 56 [.int .u64 (key : Int), .int .i64 (slots : Int), .int .i64 (slot : Int), .int .u64 (ahead : Int), .int .u64 (ptr : Int), wn, .int .i64 (loads : Int), .int .u64 (found : Int), .bool is, .bool false, .int .i64 (k : Int), .func (.func f) bd cp]) : Calls Try.prog 23 #[.pointer (some ⟨g, 0, none⟩)] w fun e w' => e = .returned (.tuple #[wn, .bool true]) ∧ w = w' := by
  refine X.fn Try.func23 rfl (n := 16) rfl rfl ?_
  refine CC.seq ?_
  refine CC.region ?_
  refine LL.val (R.assign rfl rfl) rfl rfl rfl ?_
  refine LL.val (R.assign rfl rfl) rfl rfl rfl ?_
  refine LL.nilS ?_
  refine CC.seq ?_
  refine CC.seq ?_
  refine CC.region ?_
  refine LL.val (R.move rfl rfl) rfl rfl rfl ?_
  refine LL.call (R.call rfl rfl rfl) rfl rfl rfl (none_any _ (by first | assumption | omega)) ?_
  rintro e W' ⟨rfl, rfl⟩
  refine ⟨_, rfl, ?_⟩
  refine LL.val (R.move rfl rfl) rfl rfl rfl ?_
  refine LL.val (R.move rfl rfl) rfl rfl rfl ?_
  refine LL.val (R.nil rfl rfl) rfl rfl rfl ?_
  refine LL.val (R.field rfl rfl (I.fld rfl)) rfl rfl rfl ?_
  refine LL.val (R.load rfl rfl (I.ld1 rfl (RowL.cell h rfl))) rfl rfl rfl ?_
  refine LL.val (R.pick rfl rfl rfl) rfl rfl rfl ?_
  refine LL.nilS ?_
  refine CC.no rfl ?_
  refine CC.skip ?_
  refine EE.thenN ?_
  refine CC.seq ?_
  refine CC.region ?_
  refine LL.val (R.move rfl rfl) rfl rfl rfl ?_
  refine LL.val (R.nil rfl rfl) rfl rfl rfl ?_
  refine LL.val (R.field rfl rfl (I.fld rfl)) rfl rfl rfl ?_
  refine LL.val (R.load rfl rfl (I.ld1 rfl (RowL.cell h rfl))) rfl rfl rfl ?_
  refine LL.val (R.assign rfl rfl) rfl rfl rfl ?_
  refine LL.val (R.assign rfl rfl) rfl rfl rfl ?_
  refine LL.nilS ?_
  refine CC.ret ?_
  refine EE.ret _ rfl rfl ?_
  exact ⟨rfl, rfl⟩
theorem wants_D (g : Nat) {key slots slot ahead ptr loads found k : Nat} {wn : Value} {f : Nat} {bd cp : Array Value} {is : Bool} {w : World} (h : RowL w g 56 [.int .u64 (key : Int), .int .i64 (slots : Int), .int .i64 (slot : Int), .int .u64 (ahead : Int), .int .u64 (ptr : Int), wn, .int .i64 (loads : Int), .int .u64 (found : Int), .bool is, .bool true, .int .i64 (k : Int), .func (.func f) bd cp]) : Calls Try.prog 23 #[.pointer (some ⟨g, 0, none⟩)] w fun e w' => e = .returned (.tuple #[.int .i64 0, .bool false]) ∧ w = w' := by
  refine X.fn Try.func23 rfl (n := 16) rfl rfl ?_
  refine CC.seq ?_
  refine CC.region ?_
  refine LL.val (R.assign rfl rfl) rfl rfl rfl ?_
  refine LL.val (R.assign rfl rfl) rfl rfl rfl ?_
  refine LL.nilS ?_
  refine CC.seq ?_
  refine CC.seq ?_
  refine CC.region ?_
  refine LL.val (R.move rfl rfl) rfl rfl rfl ?_
  refine LL.call (R.call rfl rfl rfl) rfl rfl rfl (none_any _ (by first | assumption | omega)) ?_
  rintro e W' ⟨rfl, rfl⟩
  refine ⟨_, rfl, ?_⟩
  refine LL.val (R.move rfl rfl) rfl rfl rfl ?_
  refine LL.val (R.move rfl rfl) rfl rfl rfl ?_
  refine LL.val (R.nil rfl rfl) rfl rfl rfl ?_
  refine LL.val (R.field rfl rfl (I.fld rfl)) rfl rfl rfl ?_
  refine LL.val (R.load rfl rfl (I.ld1 rfl (RowL.cell h rfl))) rfl rfl rfl ?_
  refine LL.val (R.pick rfl rfl rfl) rfl rfl rfl ?_
  refine LL.nilS ?_
  refine CC.yes rfl ?_
  refine CC.seq ?_
  refine CC.region ?_
  refine LL.val (R.assign rfl rfl) rfl rfl rfl ?_
  refine LL.val (R.assign rfl rfl) rfl rfl rfl ?_
  refine LL.nilS ?_
  refine CC.ret ?_
  refine EE.thenR ?_
  refine EE.ret _ rfl rfl ?_
  exact ⟨rfl, rfl⟩
theorem found_g (g : Nat) {key slots slot ahead ptr loads found k : Nat} {wn : Value} {f : Nat} {bd cp : Array Value} {is dn : Bool} {w : World} (h : RowL w g 56 [.int .u64 (key : Int), .int .i64 (slots : Int), .int .i64 (slot : Int), .int .u64 (ahead : Int), .int .u64 (ptr : Int), wn, .int .i64 (loads : Int), .int .u64 (found : Int), .bool is, .bool dn, .int .i64 (k : Int), .func (.func f) bd cp]) : Calls Try.prog 24 #[.pointer (some ⟨g, 0, none⟩)] w fun e w' => e = .returned (.tuple #[.int .u64 (found : Int), .bool is, .bool dn]) ∧ Below w.heap.size w w' := by
  have q := Below.refl w.heap.size w
  refine X.fn Try.func24 rfl (n := 19) rfl rfl ?_
  refine CC.seq ?_
  refine CC.region ?_
  refine LL.val (R.assign rfl rfl) rfl rfl rfl ?_
  refine LL.val (R.assign rfl rfl) rfl rfl rfl ?_
  refine LL.val (R.assign rfl rfl) rfl rfl rfl ?_
  refine LL.nilS ?_
  refine CC.seq ?_
  refine CC.seq ?_
  refine CC.region ?_
  refine LL.val (R.move rfl rfl) rfl rfl rfl ?_
  refine LL.call (R.call rfl rfl rfl) rfl rfl rfl (none_any _ (by first | assumption | omega)) ?_
  rintro e W' ⟨rfl, rfl⟩
  refine ⟨_, rfl, ?_⟩
  refine LL.nilS ?_
  refine CC.no rfl ?_
  refine CC.skip ?_
  refine EE.thenN ?_
  refine CC.seq ?_
  refine CC.quietB (by kernel_rfl) (by kernel_rfl) (fun W2 b1 z3 => ?_)
  replace h := h.up b1
  replace q := q.trans (b1.mono q.size)
  refine SS.val (R.move rfl rfl) rfl rfl ?_
  refine SS.val (R.nil rfl rfl) rfl rfl ?_
  refine SS.val (R.field rfl rfl (I.fld rfl)) rfl rfl ?_
  refine SS.val (R.load rfl rfl (I.ld1 rfl (RowL.cell h rfl))) rfl rfl ?_
  refine SS.val (R.move rfl rfl) rfl rfl ?_
  refine SS.val (R.nil rfl rfl) rfl rfl ?_
  refine SS.val (R.field rfl rfl (I.fld rfl)) rfl rfl ?_
  refine SS.val (R.load rfl rfl (I.ld1 rfl (RowL.cell h rfl))) rfl rfl ?_
  refine SS.val (R.move rfl rfl) rfl rfl ?_
  refine SS.val (R.nil rfl rfl) rfl rfl ?_
  refine SS.val (R.field rfl rfl (I.fld rfl)) rfl rfl ?_
  refine SS.val (R.load rfl rfl (I.ld1 rfl (RowL.cell h rfl))) rfl rfl ?_
  refine SS.val (R.assign rfl rfl) rfl rfl ?_
  refine SS.val (R.assign rfl rfl) rfl rfl ?_
  refine SS.val (R.assign rfl rfl) rfl rfl ?_
  refine SS.nilQ ?_
  refine EE.thenN ?_
  refine CC.ret ?_
  refine EE.ret _ rfl rfl ?_
  exact ⟨rfl, q⟩
theorem loads_g (g : Nat) {key slots slot ahead ptr loads found k : Nat} {wn : Value} {f : Nat} {bd cp : Array Value} {is dn : Bool} {w : World} (h : RowL w g 56 [.int .u64 (key : Int), .int .i64 (slots : Int), .int .i64 (slot : Int), .int .u64 (ahead : Int), .int .u64 (ptr : Int), wn, .int .i64 (loads : Int), .int .u64 (found : Int), .bool is, .bool dn, .int .i64 (k : Int), .func (.func f) bd cp]) : Calls Try.prog 25 #[.pointer (some ⟨g, 0, none⟩)] w fun e w' => e = .returned (.int .i64 (loads : Int)) ∧ w = w' := by
  refine X.fn Try.func25 rfl (n := 9) rfl rfl ?_
  refine CC.seq ?_
  refine CC.region ?_
  refine LL.val (R.assign rfl rfl) rfl rfl rfl ?_
  refine LL.nilS ?_
  refine CC.seq ?_
  refine CC.seq ?_
  refine CC.region ?_
  refine LL.val (R.move rfl rfl) rfl rfl rfl ?_
  refine LL.call (R.call rfl rfl rfl) rfl rfl rfl (none_any _ (by first | assumption | omega)) ?_
  rintro e W' ⟨rfl, rfl⟩
  refine ⟨_, rfl, ?_⟩
  refine LL.nilS ?_
  refine CC.no rfl ?_
  refine CC.skip ?_
  refine EE.thenN ?_
  refine CC.seq ?_
  refine CC.region ?_
  refine LL.val (R.move rfl rfl) rfl rfl rfl ?_
  refine LL.val (R.nil rfl rfl) rfl rfl rfl ?_
  refine LL.val (R.field rfl rfl (I.fld rfl)) rfl rfl rfl ?_
  refine LL.val (R.load rfl rfl (I.ld1 rfl (RowL.cell h rfl))) rfl rfl rfl ?_
  refine LL.val (R.assign rfl rfl) rfl rfl rfl ?_
  refine LL.nilS ?_
  refine CC.ret ?_
  refine EE.ret _ rfl rfl ?_
  exact ⟨rfl, rfl⟩
theorem give_done (g : Nat) (v : Int) (r : Rd) {w : World} (h : RowL w g 56 (rdR g r)) (hd : r.dn = true) : Calls Try.prog 15 #[.pointer (some ⟨g, 0, none⟩), .int .u64 v] w fun e w' => e = .returned (.int .i64 5) ∧ w = w' := by
  obtain ⟨f, bd, cp, e⟩ := rd_fn g r
  unfold rdR at h
  rw [e, hd] at h
  exact give_D g v h
theorem wants_run (g : Nat) (r : Rd) {w : World} (h : RowL w g 56 (rdR g r)) (hd : r.dn = false) : Calls Try.prog 23 #[.pointer (some ⟨g, 0, none⟩)] w fun e w' => e = .returned (.tuple #[.int .i64 (wantI r.k r.slot), .bool true]) ∧ w = w' := by
  obtain ⟨f, bd, cp, e⟩ := rd_fn g r
  unfold rdR at h
  rw [e, hd] at h
  exact wants_N g h
theorem wants_done (g : Nat) (r : Rd) {w : World} (h : RowL w g 56 (rdR g r)) (hd : r.dn = true) : Calls Try.prog 23 #[.pointer (some ⟨g, 0, none⟩)] w fun e w' => e = .returned (.tuple #[.int .i64 0, .bool false]) ∧ w = w' := by
  obtain ⟨f, bd, cp, e⟩ := rd_fn g r
  unfold rdR at h
  rw [e, hd] at h
  exact wants_D g h
theorem found_any (g : Nat) (r : Rd) {w : World} (h : RowL w g 56 (rdR g r)) : Calls Try.prog 24 #[.pointer (some ⟨g, 0, none⟩)] w fun e w' => e = .returned (.tuple #[.int .u64 (r.found : Int), .bool r.is, .bool r.dn]) ∧ Below w.heap.size w w' := by
  obtain ⟨f, bd, cp, e⟩ := rd_fn g r
  unfold rdR at h
  rw [e] at h
  exact found_g g h
theorem loads_any (g : Nat) (r : Rd) {w : World} (h : RowL w g 56 (rdR g r)) : Calls Try.prog 25 #[.pointer (some ⟨g, 0, none⟩)] w fun e w' => e = .returned (.int .i64 (r.loads : Int)) ∧ w = w' := by
  obtain ⟨f, bd, cp, e⟩ := rd_fn g r
  unfold rdR at h
  rw [e] at h
  exact loads_g g h
theorem wants_0 {w : World} : Calls Try.prog 23 #[.pointer none] w fun e w' => e = .returned (.tuple #[.int .i64 0, .bool false]) ∧ w = w' := by
  refine X.fn Try.func23 rfl (n := 16) rfl rfl ?_
  refine CC.seq ?_
  refine CC.region ?_
  refine LL.val (R.assign rfl rfl) rfl rfl rfl ?_
  refine LL.val (R.assign rfl rfl) rfl rfl rfl ?_
  refine LL.nilS ?_
  refine CC.seq ?_
  refine CC.seq ?_
  refine CC.region ?_
  refine LL.val (R.move rfl rfl) rfl rfl rfl ?_
  (refine LL.call (R.call rfl rfl rfl) rfl rfl rfl (none_0 _) ?_; rintro e W' ⟨rfl, rfl⟩; refine ⟨_, rfl, ?_⟩)
  refine LL.val (R.move rfl rfl) rfl rfl rfl ?_
  refine LL.skip rfl rfl ?_
  refine LL.skip rfl rfl ?_
  refine LL.skip rfl rfl ?_
  refine LL.skip rfl rfl ?_
  refine LL.val (R.pick rfl rfl rfl) rfl rfl rfl ?_
  refine LL.nilS ?_
  refine CC.yes rfl ?_
  refine CC.seq ?_
  refine CC.region ?_
  refine LL.val (R.assign rfl rfl) rfl rfl rfl ?_
  refine LL.val (R.assign rfl rfl) rfl rfl rfl ?_
  refine LL.nilS ?_
  refine CC.ret ?_
  refine EE.thenR ?_
  refine EE.ret _ rfl rfl ?_
  exact ⟨rfl, rfl⟩
theorem wants_Z (g : Nat) {c0 c1 c2 c3 c4 c5 c6 c7 c8 c9 c10 : Value} {w : World} (h : RowL w g 56 [c0, c1, c2, c3, c4, c5, c6, c7, c8, c9, c10, .nilFunc]) : Calls Try.prog 23 #[.pointer (some ⟨g, 0, none⟩)] w fun e w' => e = .returned (.tuple #[.int .i64 0, .bool false]) ∧ w = w' := by
  refine X.fn Try.func23 rfl (n := 16) rfl rfl ?_
  refine CC.seq ?_
  refine CC.region ?_
  refine LL.val (R.assign rfl rfl) rfl rfl rfl ?_
  refine LL.val (R.assign rfl rfl) rfl rfl rfl ?_
  refine LL.nilS ?_
  refine CC.seq ?_
  refine CC.seq ?_
  refine CC.region ?_
  refine LL.val (R.move rfl rfl) rfl rfl rfl ?_
  (refine LL.call (R.call rfl rfl rfl) rfl rfl rfl (none_Z _ h) ?_; rintro e W' ⟨rfl, rfl⟩; refine ⟨_, rfl, ?_⟩)
  refine LL.val (R.move rfl rfl) rfl rfl rfl ?_
  refine LL.skip rfl rfl ?_
  refine LL.skip rfl rfl ?_
  refine LL.skip rfl rfl ?_
  refine LL.skip rfl rfl ?_
  refine LL.val (R.pick rfl rfl rfl) rfl rfl rfl ?_
  refine LL.nilS ?_
  refine CC.yes rfl ?_
  refine CC.seq ?_
  refine CC.region ?_
  refine LL.val (R.assign rfl rfl) rfl rfl rfl ?_
  refine LL.val (R.assign rfl rfl) rfl rfl rfl ?_
  refine LL.nilS ?_
  refine CC.ret ?_
  refine EE.thenR ?_
  refine EE.ret _ rfl rfl ?_
  exact ⟨rfl, rfl⟩
theorem found_0 {w : World} : Calls Try.prog 24 #[.pointer none] w fun e w' => e = .returned (.tuple #[.int .u64 0, .bool false, .bool false]) ∧ w = w' := by
  refine X.fn Try.func24 rfl (n := 19) rfl rfl ?_
  refine CC.seq ?_
  refine CC.region ?_
  refine LL.val (R.assign rfl rfl) rfl rfl rfl ?_
  refine LL.val (R.assign rfl rfl) rfl rfl rfl ?_
  refine LL.val (R.assign rfl rfl) rfl rfl rfl ?_
  refine LL.nilS ?_
  refine CC.seq ?_
  refine CC.seq ?_
  refine CC.region ?_
  refine LL.val (R.move rfl rfl) rfl rfl rfl ?_
  (refine LL.call (R.call rfl rfl rfl) rfl rfl rfl (none_0 _) ?_; rintro e W' ⟨rfl, rfl⟩; refine ⟨_, rfl, ?_⟩)
  refine LL.nilS ?_
  refine CC.yes rfl ?_
  refine CC.seq ?_
  refine CC.region ?_
  refine LL.val (R.assign rfl rfl) rfl rfl rfl ?_
  refine LL.val (R.assign rfl rfl) rfl rfl rfl ?_
  refine LL.val (R.assign rfl rfl) rfl rfl rfl ?_
  refine LL.nilS ?_
  refine CC.ret ?_
  refine EE.thenR ?_
  refine EE.ret _ rfl rfl ?_
  exact ⟨rfl, rfl⟩
theorem found_Z (g : Nat) {c0 c1 c2 c3 c4 c5 c6 c7 c8 c9 c10 : Value} {w : World} (h : RowL w g 56 [c0, c1, c2, c3, c4, c5, c6, c7, c8, c9, c10, .nilFunc]) : Calls Try.prog 24 #[.pointer (some ⟨g, 0, none⟩)] w fun e w' => e = .returned (.tuple #[.int .u64 0, .bool false, .bool false]) ∧ w = w' := by
  refine X.fn Try.func24 rfl (n := 19) rfl rfl ?_
  refine CC.seq ?_
  refine CC.region ?_
  refine LL.val (R.assign rfl rfl) rfl rfl rfl ?_
  refine LL.val (R.assign rfl rfl) rfl rfl rfl ?_
  refine LL.val (R.assign rfl rfl) rfl rfl rfl ?_
  refine LL.nilS ?_
  refine CC.seq ?_
  refine CC.seq ?_
  refine CC.region ?_
  refine LL.val (R.move rfl rfl) rfl rfl rfl ?_
  (refine LL.call (R.call rfl rfl rfl) rfl rfl rfl (none_Z _ h) ?_; rintro e W' ⟨rfl, rfl⟩; refine ⟨_, rfl, ?_⟩)
  refine LL.nilS ?_
  refine CC.yes rfl ?_
  refine CC.seq ?_
  refine CC.region ?_
  refine LL.val (R.assign rfl rfl) rfl rfl rfl ?_
  refine LL.val (R.assign rfl rfl) rfl rfl rfl ?_
  refine LL.val (R.assign rfl rfl) rfl rfl rfl ?_
  refine LL.nilS ?_
  refine CC.ret ?_
  refine EE.thenR ?_
  refine EE.ret _ rfl rfl ?_
  exact ⟨rfl, rfl⟩
theorem loads_0 {w : World} : Calls Try.prog 25 #[.pointer none] w fun e w' => e = .returned (.int .i64 0) ∧ w = w' := by
  refine X.fn Try.func25 rfl (n := 9) rfl rfl ?_
  refine CC.seq ?_
  refine CC.region ?_
  refine LL.val (R.assign rfl rfl) rfl rfl rfl ?_
  refine LL.nilS ?_
  refine CC.seq ?_
  refine CC.seq ?_
  refine CC.region ?_
  refine LL.val (R.move rfl rfl) rfl rfl rfl ?_
  (refine LL.call (R.call rfl rfl rfl) rfl rfl rfl (none_0 _) ?_; rintro e W' ⟨rfl, rfl⟩; refine ⟨_, rfl, ?_⟩)
  refine LL.nilS ?_
  refine CC.yes rfl ?_
  refine CC.seq ?_
  refine CC.region ?_
  refine LL.val (R.assign rfl rfl) rfl rfl rfl ?_
  refine LL.nilS ?_
  refine CC.ret ?_
  refine EE.thenR ?_
  refine EE.ret _ rfl rfl ?_
  exact ⟨rfl, rfl⟩
theorem loads_Z (g : Nat) {c0 c1 c2 c3 c4 c5 c6 c7 c8 c9 c10 : Value} {w : World} (h : RowL w g 56 [c0, c1, c2, c3, c4, c5, c6, c7, c8, c9, c10, .nilFunc]) : Calls Try.prog 25 #[.pointer (some ⟨g, 0, none⟩)] w fun e w' => e = .returned (.int .i64 0) ∧ w = w' := by
  refine X.fn Try.func25 rfl (n := 9) rfl rfl ?_
  refine CC.seq ?_
  refine CC.region ?_
  refine LL.val (R.assign rfl rfl) rfl rfl rfl ?_
  refine LL.nilS ?_
  refine CC.seq ?_
  refine CC.seq ?_
  refine CC.region ?_
  refine LL.val (R.move rfl rfl) rfl rfl rfl ?_
  (refine LL.call (R.call rfl rfl rfl) rfl rfl rfl (none_Z _ h) ?_; rintro e W' ⟨rfl, rfl⟩; refine ⟨_, rfl, ?_⟩)
  refine LL.nilS ?_
  refine CC.yes rfl ?_
  refine CC.seq ?_
  refine CC.region ?_
  refine LL.val (R.assign rfl rfl) rfl rfl rfl ?_
  refine LL.nilS ?_
  refine CC.ret ?_
  refine EE.thenR ?_
  refine EE.ret _ rfl rfl ?_
  exact ⟨rfl, rfl⟩
theorem cop_0 {w : World} : Calls Try.prog 14 #[.pointer none] w fun e w' => e = .returned (.pointer none) ∧ w = w' := by
  refine X.fn Try.func14 rfl (n := 14) rfl rfl ?_
  refine CC.seq ?_
  refine CC.region ?_
  refine LL.val (R.assign rfl rfl) rfl rfl rfl ?_
  refine LL.nilS ?_
  refine CC.seq ?_
  refine CC.seq ?_
  refine CC.region ?_
  refine LL.val (R.move rfl rfl) rfl rfl rfl ?_
  (refine LL.call (R.call rfl rfl rfl) rfl rfl rfl (none_0 _) ?_; rintro e W' ⟨rfl, rfl⟩; refine ⟨_, rfl, ?_⟩)
  refine LL.nilS ?_
  refine CC.yes rfl ?_
  refine CC.seq ?_
  refine CC.region ?_
  refine LL.val (R.assign rfl rfl) rfl rfl rfl ?_
  refine LL.nilS ?_
  refine CC.ret ?_
  refine EE.thenR ?_
  refine EE.ret _ rfl rfl ?_
  exact ⟨rfl, rfl⟩
theorem cop_Z (g : Nat) {c0 c1 c2 c3 c4 c5 c6 c7 c8 c9 c10 : Value} {w : World} (h : RowL w g 56 [c0, c1, c2, c3, c4, c5, c6, c7, c8, c9, c10, .nilFunc]) : Calls Try.prog 14 #[.pointer (some ⟨g, 0, none⟩)] w fun e w' => e = .returned (.pointer none) ∧ w = w' := by
  refine X.fn Try.func14 rfl (n := 14) rfl rfl ?_
  refine CC.seq ?_
  refine CC.region ?_
  refine LL.val (R.assign rfl rfl) rfl rfl rfl ?_
  refine LL.nilS ?_
  refine CC.seq ?_
  refine CC.seq ?_
  refine CC.region ?_
  refine LL.val (R.move rfl rfl) rfl rfl rfl ?_
  (refine LL.call (R.call rfl rfl rfl) rfl rfl rfl (none_Z _ h) ?_; rintro e W' ⟨rfl, rfl⟩; refine ⟨_, rfl, ?_⟩)
  refine LL.nilS ?_
  refine CC.yes rfl ?_
  refine CC.seq ?_
  refine CC.region ?_
  refine LL.val (R.assign rfl rfl) rfl rfl rfl ?_
  refine LL.nilS ?_
  refine CC.ret ?_
  refine EE.thenR ?_
  refine EE.ret _ rfl rfl ?_
  exact ⟨rfl, rfl⟩
theorem givN_0 (v : Int) {w : World} : Calls Try.prog 15 #[.pointer none, .int .u64 v] w fun e w' => e = .returned (.int .i64 1) ∧ w = w' := by
  refine X.fn Try.func15 rfl (n := 24) rfl rfl ?_
  refine CC.seq ?_
  refine CC.region ?_
  refine LL.val (R.assign rfl rfl) rfl rfl rfl ?_
  refine LL.nilS ?_
  refine CC.seq ?_
  refine CC.seq ?_
  refine CC.region ?_
  refine LL.val (R.move rfl rfl) rfl rfl rfl ?_
  (refine LL.call (R.call rfl rfl rfl) rfl rfl rfl (none_0 _) ?_; rintro e W' ⟨rfl, rfl⟩; refine ⟨_, rfl, ?_⟩)
  refine LL.nilS ?_
  refine CC.yes rfl ?_
  refine CC.seq ?_
  refine CC.region ?_
  refine LL.val (R.assign rfl rfl) rfl rfl rfl ?_
  refine LL.nilS ?_
  refine CC.ret ?_
  refine EE.thenR ?_
  refine EE.ret _ rfl rfl ?_
  exact ⟨rfl, rfl⟩
theorem givN_Z (g : Nat) {c0 c1 c2 c3 c4 c5 c6 c7 c8 c9 c10 : Value} (v : Int) {w : World} (h : RowL w g 56 [c0, c1, c2, c3, c4, c5, c6, c7, c8, c9, c10, .nilFunc]) : Calls Try.prog 15 #[.pointer (some ⟨g, 0, none⟩), .int .u64 v] w fun e w' => e = .returned (.int .i64 1) ∧ w = w' := by
  refine X.fn Try.func15 rfl (n := 24) rfl rfl ?_
  refine CC.seq ?_
  refine CC.region ?_
  refine LL.val (R.assign rfl rfl) rfl rfl rfl ?_
  refine LL.nilS ?_
  refine CC.seq ?_
  refine CC.seq ?_
  refine CC.region ?_
  refine LL.val (R.move rfl rfl) rfl rfl rfl ?_
  (refine LL.call (R.call rfl rfl rfl) rfl rfl rfl (none_Z _ h) ?_; rintro e W' ⟨rfl, rfl⟩; refine ⟨_, rfl, ?_⟩)
  refine LL.nilS ?_
  refine CC.yes rfl ?_
  refine CC.seq ?_
  refine CC.region ?_
  refine LL.val (R.assign rfl rfl) rfl rfl rfl ?_
  refine LL.nilS ?_
  refine CC.ret ?_
  refine EE.thenR ?_
  refine EE.ret _ rfl rfl ?_
  exact ⟨rfl, rfl⟩
theorem copy_0 (g : Nat) {key slots slot ahead ptr loads found : Nat} {is dn : Bool} {w : World} (h : RowL w g 56 [.int .u64 (key : Int), .int .i64 (slots : Int), .int .i64 (slot : Int), .int .u64 (ahead : Int), .int .u64 (ptr : Int), .int .i64 ((2 * slot : Nat) : Int), .int .i64 (loads : Int), .int .u64 (found : Int), .bool is, .bool dn, .int .i64 0, .func (.func 56) #[.pointer (some ⟨g, 0, none⟩)] #[]]) : Calls Try.prog 14 #[.pointer (some ⟨g, 0, none⟩)] w fun e w' => ∃ g', e = .returned (.pointer (some ⟨g', 0, none⟩)) ∧ RowL w' g' 56 (rdR g' ⟨key, slots, slot, ahead, ptr, loads, found, is, dn, 0⟩) ∧ w.heap.size ≤ g' ∧ Below w.heap.size w w' := by
  have q := Below.refl w.heap.size w
  refine X.fn Try.func14 rfl (n := 14) rfl rfl ?_
  refine CC.seq ?_
  refine CC.region ?_
  refine LL.val (R.assign rfl rfl) rfl rfl rfl ?_
  refine LL.nilS ?_
  refine CC.seq ?_
  refine CC.seq ?_
  refine CC.region ?_
  refine LL.val (R.move rfl rfl) rfl rfl rfl ?_
  refine LL.call (R.call rfl rfl rfl) rfl rfl rfl (none_any _ (by first | assumption | omega)) ?_
  rintro e W' ⟨rfl, rfl⟩
  refine ⟨_, rfl, ?_⟩
  refine LL.nilS ?_
  refine CC.no rfl ?_
  refine CC.skip ?_
  refine EE.thenN ?_
  refine CC.seq ?_
  refine CC.region ?_
  refine LL.val (R.move rfl rfl) rfl rfl rfl ?_
  refine LL.val (R.nil rfl rfl) rfl rfl rfl ?_
  refine LL.val (R.load rfl rfl (I.ldNc (vs := [Value.int IntKind.u64 ↑key, Value.int IntKind.i64 ↑slots, Value.int IntKind.i64 ↑slot, Value.int IntKind.u64 ↑ahead, Value.int IntKind.u64 ↑ptr, Value.int IntKind.i64 ↑(2 * slot), Value.int IntKind.i64 ↑loads, Value.int IntKind.u64 ↑found, Value.bool is, Value.bool dn, Value.int IntKind.i64 0, Value.func (Fn.func 56) #[Value.pointer (some { block := g, off := 0 })] #[]]) (RowL.cells h rfl) (by rfl) (by rfl))) rfl rfl rfl ?_
  have l50 := h.lt
  refine LL.alloc ([Value.int IntKind.u64 0, Value.int IntKind.i64 0, Value.int IntKind.i64 0, Value.int IntKind.u64 0, Value.int IntKind.u64 0, Value.int IntKind.i64 0, Value.int IntKind.i64 0, Value.int IntKind.u64 0, Value.bool false, Value.bool false, Value.int IntKind.i64 0, Value.nilFunc]) rfl rfl rfl rfl rfl ?_
  intro W52 g53 eg53 r54 z55 b51
  replace h := h.up b51
  replace q := q.trans (b51.mono q.size)
  refine LL.storeN (vs := [Value.int IntKind.u64 ↑key, Value.int IntKind.i64 ↑slots, Value.int IntKind.i64 ↑slot, Value.int IntKind.u64 ↑ahead, Value.int IntKind.u64 ↑ptr, Value.int IntKind.i64 ↑(2 * slot), Value.int IntKind.i64 ↑loads, Value.int IntKind.u64 ↑found, Value.bool is, Value.bool dn, Value.int IntKind.i64 0, Value.func (Fn.func 56) #[Value.pointer (some { block := g, off := 0 })] #[]]) rfl rfl rfl rfl r54 (by exact Nat.le_of_ble_eq_true rfl) (ones_of rfl) rfl rfl ?_
  intro W64 r65 b63 z66
  have hlb63 := r54.lt
  replace r65 : RowL W64 _ 56 [Value.int IntKind.u64 ↑key, Value.int IntKind.i64 ↑slots, Value.int IntKind.i64 ↑slot, Value.int IntKind.u64 ↑ahead, Value.int IntKind.u64 ↑ptr, Value.int IntKind.i64 ↑(2 * slot), Value.int IntKind.i64 ↑loads, Value.int IntKind.u64 ↑found, Value.bool is, Value.bool dn, Value.int IntKind.i64 0, Value.func (Fn.func 56) #[Value.pointer (some { block := g, off := 0 })] #[]] := r65
  clear r54
  replace b51 := b51.grown b63 b51.size (by rintro k ⟨⟩; omega)
  replace h := h.gr b63 (by have := h.lt; omega)
  replace q := q.grown b63 q.size (by rintro k ⟨⟩; omega)
  have r54 := r65
  clear r65
  refine LL.nilS ?_
  refine CC.seq ?_
  refine CC.region ?_
  refine LL.val (R.move rfl rfl) rfl rfl rfl ?_
  refine LL.val (R.nil rfl rfl) rfl rfl rfl ?_
  refine LL.val (R.field rfl rfl (I.fld rfl)) rfl rfl rfl ?_
  refine LL.val (R.load rfl rfl (I.ld1 rfl (RowL.cell h rfl))) rfl rfl rfl ?_
  (refine LL.call (R.call rfl rfl rfl) rfl rfl rfl (turn_0 _ (by assumption)) ?_; rintro e W98 ⟨rfl, hN, t97⟩; refine ⟨_, rfl, ?_⟩)
  have zt97 := t97.size
  replace b51 := t97.onB b51 (fun j hj => ⟨by have := b51.size; omega, by omega⟩)
  replace h := h.kept t97 ⟨h.lt, by omega⟩
  replace q := t97.onB q (fun j hj => ⟨by have := q.size; omega, by omega⟩)
  refine LL.nilS ?_
  refine CC.seq ?_
  refine CC.region ?_
  refine LL.val (R.assign rfl rfl) rfl rfl rfl ?_
  refine LL.nilS ?_
  refine CC.ret ?_
  refine EE.ret _ rfl rfl ?_
  exact ⟨_, rfl, hN, by omega, q⟩
theorem copy_1 (g : Nat) {key slots slot ahead ptr loads found : Nat} {is dn : Bool} {w : World} (h : RowL w g 56 [.int .u64 (key : Int), .int .i64 (slots : Int), .int .i64 (slot : Int), .int .u64 (ahead : Int), .int .u64 (ptr : Int), .int .i64 (2 * (slot : Int) - 1), .int .i64 (loads : Int), .int .u64 (found : Int), .bool is, .bool dn, .int .i64 1, .func (.func 57) #[.pointer (some ⟨g, 0, none⟩)] #[]]) : Calls Try.prog 14 #[.pointer (some ⟨g, 0, none⟩)] w fun e w' => ∃ g', e = .returned (.pointer (some ⟨g', 0, none⟩)) ∧ RowL w' g' 56 (rdR g' ⟨key, slots, slot, ahead, ptr, loads, found, is, dn, 1⟩) ∧ w.heap.size ≤ g' ∧ Below w.heap.size w w' := by
  have q := Below.refl w.heap.size w
  refine X.fn Try.func14 rfl (n := 14) rfl rfl ?_
  refine CC.seq ?_
  refine CC.region ?_
  refine LL.val (R.assign rfl rfl) rfl rfl rfl ?_
  refine LL.nilS ?_
  refine CC.seq ?_
  refine CC.seq ?_
  refine CC.region ?_
  refine LL.val (R.move rfl rfl) rfl rfl rfl ?_
  refine LL.call (R.call rfl rfl rfl) rfl rfl rfl (none_any _ (by first | assumption | omega)) ?_
  rintro e W' ⟨rfl, rfl⟩
  refine ⟨_, rfl, ?_⟩
  refine LL.nilS ?_
  refine CC.no rfl ?_
  refine CC.skip ?_
  refine EE.thenN ?_
  refine CC.seq ?_
  refine CC.region ?_
  refine LL.val (R.move rfl rfl) rfl rfl rfl ?_
  refine LL.val (R.nil rfl rfl) rfl rfl rfl ?_
  refine LL.val (R.load rfl rfl (I.ldNc (vs := [Value.int IntKind.u64 ↑key, Value.int IntKind.i64 ↑slots, Value.int IntKind.i64 ↑slot, Value.int IntKind.u64 ↑ahead, Value.int IntKind.u64 ↑ptr, Value.int IntKind.i64 (2 * ↑slot - 1), Value.int IntKind.i64 ↑loads, Value.int IntKind.u64 ↑found, Value.bool is, Value.bool dn, Value.int IntKind.i64 1, Value.func (Fn.func 57) #[Value.pointer (some { block := g, off := 0 })] #[]]) (RowL.cells h rfl) (by rfl) (by rfl))) rfl rfl rfl ?_
  have l50 := h.lt
  refine LL.alloc ([Value.int IntKind.u64 0, Value.int IntKind.i64 0, Value.int IntKind.i64 0, Value.int IntKind.u64 0, Value.int IntKind.u64 0, Value.int IntKind.i64 0, Value.int IntKind.i64 0, Value.int IntKind.u64 0, Value.bool false, Value.bool false, Value.int IntKind.i64 0, Value.nilFunc]) rfl rfl rfl rfl rfl ?_
  intro W52 g53 eg53 r54 z55 b51
  replace h := h.up b51
  replace q := q.trans (b51.mono q.size)
  refine LL.storeN (vs := [Value.int IntKind.u64 ↑key, Value.int IntKind.i64 ↑slots, Value.int IntKind.i64 ↑slot, Value.int IntKind.u64 ↑ahead, Value.int IntKind.u64 ↑ptr, Value.int IntKind.i64 (2 * ↑slot - 1), Value.int IntKind.i64 ↑loads, Value.int IntKind.u64 ↑found, Value.bool is, Value.bool dn, Value.int IntKind.i64 1, Value.func (Fn.func 57) #[Value.pointer (some { block := g, off := 0 })] #[]]) rfl rfl rfl rfl r54 (by exact Nat.le_of_ble_eq_true rfl) (ones_of rfl) rfl rfl ?_
  intro W64 r65 b63 z66
  have hlb63 := r54.lt
  replace r65 : RowL W64 _ 56 [Value.int IntKind.u64 ↑key, Value.int IntKind.i64 ↑slots, Value.int IntKind.i64 ↑slot, Value.int IntKind.u64 ↑ahead, Value.int IntKind.u64 ↑ptr, Value.int IntKind.i64 (2 * ↑slot - 1), Value.int IntKind.i64 ↑loads, Value.int IntKind.u64 ↑found, Value.bool is, Value.bool dn, Value.int IntKind.i64 1, Value.func (Fn.func 57) #[Value.pointer (some { block := g, off := 0 })] #[]] := r65
  clear r54
  replace b51 := b51.grown b63 b51.size (by rintro k ⟨⟩; omega)
  replace h := h.gr b63 (by have := h.lt; omega)
  replace q := q.grown b63 q.size (by rintro k ⟨⟩; omega)
  have r54 := r65
  clear r65
  refine LL.nilS ?_
  refine CC.seq ?_
  refine CC.region ?_
  refine LL.val (R.move rfl rfl) rfl rfl rfl ?_
  refine LL.val (R.nil rfl rfl) rfl rfl rfl ?_
  refine LL.val (R.field rfl rfl (I.fld rfl)) rfl rfl rfl ?_
  refine LL.val (R.load rfl rfl (I.ld1 rfl (RowL.cell h rfl))) rfl rfl rfl ?_
  (refine LL.call (R.call rfl rfl rfl) rfl rfl rfl (turn_1 _ (by assumption)) ?_; rintro e W98 ⟨rfl, hN, t97⟩; refine ⟨_, rfl, ?_⟩)
  have zt97 := t97.size
  replace b51 := t97.onB b51 (fun j hj => ⟨by have := b51.size; omega, by omega⟩)
  replace h := h.kept t97 ⟨h.lt, by omega⟩
  replace q := t97.onB q (fun j hj => ⟨by have := q.size; omega, by omega⟩)
  refine LL.nilS ?_
  refine CC.seq ?_
  refine CC.region ?_
  refine LL.val (R.assign rfl rfl) rfl rfl rfl ?_
  refine LL.nilS ?_
  refine CC.ret ?_
  refine EE.ret _ rfl rfl ?_
  exact ⟨_, rfl, hN, by omega, q⟩
theorem copy_2 (g : Nat) {key slots slot ahead ptr loads found : Nat} {is dn : Bool} {w : World} (h : RowL w g 56 [.int .u64 (key : Int), .int .i64 (slots : Int), .int .i64 (slot : Int), .int .u64 (ahead : Int), .int .u64 (ptr : Int), .int .i64 ((2 * slot + 1 : Nat) : Int), .int .i64 (loads : Int), .int .u64 (found : Int), .bool is, .bool dn, .int .i64 2, .func (.func 58) #[.pointer (some ⟨g, 0, none⟩)] #[]]) : Calls Try.prog 14 #[.pointer (some ⟨g, 0, none⟩)] w fun e w' => ∃ g', e = .returned (.pointer (some ⟨g', 0, none⟩)) ∧ RowL w' g' 56 (rdR g' ⟨key, slots, slot, ahead, ptr, loads, found, is, dn, 2⟩) ∧ w.heap.size ≤ g' ∧ Below w.heap.size w w' := by
  have q := Below.refl w.heap.size w
  refine X.fn Try.func14 rfl (n := 14) rfl rfl ?_
  refine CC.seq ?_
  refine CC.region ?_
  refine LL.val (R.assign rfl rfl) rfl rfl rfl ?_
  refine LL.nilS ?_
  refine CC.seq ?_
  refine CC.seq ?_
  refine CC.region ?_
  refine LL.val (R.move rfl rfl) rfl rfl rfl ?_
  refine LL.call (R.call rfl rfl rfl) rfl rfl rfl (none_any _ (by first | assumption | omega)) ?_
  rintro e W' ⟨rfl, rfl⟩
  refine ⟨_, rfl, ?_⟩
  refine LL.nilS ?_
  refine CC.no rfl ?_
  refine CC.skip ?_
  refine EE.thenN ?_
  refine CC.seq ?_
  refine CC.region ?_
  refine LL.val (R.move rfl rfl) rfl rfl rfl ?_
  refine LL.val (R.nil rfl rfl) rfl rfl rfl ?_
  refine LL.val (R.load rfl rfl (I.ldNc (vs := [Value.int IntKind.u64 ↑key, Value.int IntKind.i64 ↑slots, Value.int IntKind.i64 ↑slot, Value.int IntKind.u64 ↑ahead, Value.int IntKind.u64 ↑ptr, Value.int IntKind.i64 ↑(2 * slot + 1), Value.int IntKind.i64 ↑loads, Value.int IntKind.u64 ↑found, Value.bool is, Value.bool dn, Value.int IntKind.i64 2, Value.func (Fn.func 58) #[Value.pointer (some { block := g, off := 0 })] #[]]) (RowL.cells h rfl) (by rfl) (by rfl))) rfl rfl rfl ?_
  have l50 := h.lt
  refine LL.alloc ([Value.int IntKind.u64 0, Value.int IntKind.i64 0, Value.int IntKind.i64 0, Value.int IntKind.u64 0, Value.int IntKind.u64 0, Value.int IntKind.i64 0, Value.int IntKind.i64 0, Value.int IntKind.u64 0, Value.bool false, Value.bool false, Value.int IntKind.i64 0, Value.nilFunc]) rfl rfl rfl rfl rfl ?_
  intro W52 g53 eg53 r54 z55 b51
  replace h := h.up b51
  replace q := q.trans (b51.mono q.size)
  refine LL.storeN (vs := [Value.int IntKind.u64 ↑key, Value.int IntKind.i64 ↑slots, Value.int IntKind.i64 ↑slot, Value.int IntKind.u64 ↑ahead, Value.int IntKind.u64 ↑ptr, Value.int IntKind.i64 ↑(2 * slot + 1), Value.int IntKind.i64 ↑loads, Value.int IntKind.u64 ↑found, Value.bool is, Value.bool dn, Value.int IntKind.i64 2, Value.func (Fn.func 58) #[Value.pointer (some { block := g, off := 0 })] #[]]) rfl rfl rfl rfl r54 (by exact Nat.le_of_ble_eq_true rfl) (ones_of rfl) rfl rfl ?_
  intro W64 r65 b63 z66
  have hlb63 := r54.lt
  replace r65 : RowL W64 _ 56 [Value.int IntKind.u64 ↑key, Value.int IntKind.i64 ↑slots, Value.int IntKind.i64 ↑slot, Value.int IntKind.u64 ↑ahead, Value.int IntKind.u64 ↑ptr, Value.int IntKind.i64 ↑(2 * slot + 1), Value.int IntKind.i64 ↑loads, Value.int IntKind.u64 ↑found, Value.bool is, Value.bool dn, Value.int IntKind.i64 2, Value.func (Fn.func 58) #[Value.pointer (some { block := g, off := 0 })] #[]] := r65
  clear r54
  replace b51 := b51.grown b63 b51.size (by rintro k ⟨⟩; omega)
  replace h := h.gr b63 (by have := h.lt; omega)
  replace q := q.grown b63 q.size (by rintro k ⟨⟩; omega)
  have r54 := r65
  clear r65
  refine LL.nilS ?_
  refine CC.seq ?_
  refine CC.region ?_
  refine LL.val (R.move rfl rfl) rfl rfl rfl ?_
  refine LL.val (R.nil rfl rfl) rfl rfl rfl ?_
  refine LL.val (R.field rfl rfl (I.fld rfl)) rfl rfl rfl ?_
  refine LL.val (R.load rfl rfl (I.ld1 rfl (RowL.cell h rfl))) rfl rfl rfl ?_
  (refine LL.call (R.call rfl rfl rfl) rfl rfl rfl (turn_2 _ (by assumption)) ?_; rintro e W98 ⟨rfl, hN, t97⟩; refine ⟨_, rfl, ?_⟩)
  have zt97 := t97.size
  replace b51 := t97.onB b51 (fun j hj => ⟨by have := b51.size; omega, by omega⟩)
  replace h := h.kept t97 ⟨h.lt, by omega⟩
  replace q := t97.onB q (fun j hj => ⟨by have := q.size; omega, by omega⟩)
  refine LL.nilS ?_
  refine CC.seq ?_
  refine CC.region ?_
  refine LL.val (R.assign rfl rfl) rfl rfl rfl ?_
  refine LL.nilS ?_
  refine CC.ret ?_
  refine EE.ret _ rfl rfl ?_
  exact ⟨_, rfl, hN, by omega, q⟩
theorem copy_3 (g : Nat) {key slots slot ahead ptr loads found : Nat} {is dn : Bool} {w : World} (h : RowL w g 56 [.int .u64 (key : Int), .int .i64 (slots : Int), .int .i64 (slot : Int), .int .u64 (ahead : Int), .int .u64 (ptr : Int), .int .i64 ((2 * slot : Nat) : Int), .int .i64 (loads : Int), .int .u64 (found : Int), .bool is, .bool dn, .int .i64 3, .func (.func 59) #[.pointer (some ⟨g, 0, none⟩)] #[]]) : Calls Try.prog 14 #[.pointer (some ⟨g, 0, none⟩)] w fun e w' => ∃ g', e = .returned (.pointer (some ⟨g', 0, none⟩)) ∧ RowL w' g' 56 (rdR g' ⟨key, slots, slot, ahead, ptr, loads, found, is, dn, 3⟩) ∧ w.heap.size ≤ g' ∧ Below w.heap.size w w' := by
  have q := Below.refl w.heap.size w
  refine X.fn Try.func14 rfl (n := 14) rfl rfl ?_
  refine CC.seq ?_
  refine CC.region ?_
  refine LL.val (R.assign rfl rfl) rfl rfl rfl ?_
  refine LL.nilS ?_
  refine CC.seq ?_
  refine CC.seq ?_
  refine CC.region ?_
  refine LL.val (R.move rfl rfl) rfl rfl rfl ?_
  refine LL.call (R.call rfl rfl rfl) rfl rfl rfl (none_any _ (by first | assumption | omega)) ?_
  rintro e W' ⟨rfl, rfl⟩
  refine ⟨_, rfl, ?_⟩
  refine LL.nilS ?_
  refine CC.no rfl ?_
  refine CC.skip ?_
  refine EE.thenN ?_
  refine CC.seq ?_
  refine CC.region ?_
  refine LL.val (R.move rfl rfl) rfl rfl rfl ?_
  refine LL.val (R.nil rfl rfl) rfl rfl rfl ?_
  refine LL.val (R.load rfl rfl (I.ldNc (vs := [Value.int IntKind.u64 ↑key, Value.int IntKind.i64 ↑slots, Value.int IntKind.i64 ↑slot, Value.int IntKind.u64 ↑ahead, Value.int IntKind.u64 ↑ptr, Value.int IntKind.i64 ↑(2 * slot), Value.int IntKind.i64 ↑loads, Value.int IntKind.u64 ↑found, Value.bool is, Value.bool dn, Value.int IntKind.i64 3, Value.func (Fn.func 59) #[Value.pointer (some { block := g, off := 0 })] #[]]) (RowL.cells h rfl) (by rfl) (by rfl))) rfl rfl rfl ?_
  have l50 := h.lt
  refine LL.alloc ([Value.int IntKind.u64 0, Value.int IntKind.i64 0, Value.int IntKind.i64 0, Value.int IntKind.u64 0, Value.int IntKind.u64 0, Value.int IntKind.i64 0, Value.int IntKind.i64 0, Value.int IntKind.u64 0, Value.bool false, Value.bool false, Value.int IntKind.i64 0, Value.nilFunc]) rfl rfl rfl rfl rfl ?_
  intro W52 g53 eg53 r54 z55 b51
  replace h := h.up b51
  replace q := q.trans (b51.mono q.size)
  refine LL.storeN (vs := [Value.int IntKind.u64 ↑key, Value.int IntKind.i64 ↑slots, Value.int IntKind.i64 ↑slot, Value.int IntKind.u64 ↑ahead, Value.int IntKind.u64 ↑ptr, Value.int IntKind.i64 ↑(2 * slot), Value.int IntKind.i64 ↑loads, Value.int IntKind.u64 ↑found, Value.bool is, Value.bool dn, Value.int IntKind.i64 3, Value.func (Fn.func 59) #[Value.pointer (some { block := g, off := 0 })] #[]]) rfl rfl rfl rfl r54 (by exact Nat.le_of_ble_eq_true rfl) (ones_of rfl) rfl rfl ?_
  intro W64 r65 b63 z66
  have hlb63 := r54.lt
  replace r65 : RowL W64 _ 56 [Value.int IntKind.u64 ↑key, Value.int IntKind.i64 ↑slots, Value.int IntKind.i64 ↑slot, Value.int IntKind.u64 ↑ahead, Value.int IntKind.u64 ↑ptr, Value.int IntKind.i64 ↑(2 * slot), Value.int IntKind.i64 ↑loads, Value.int IntKind.u64 ↑found, Value.bool is, Value.bool dn, Value.int IntKind.i64 3, Value.func (Fn.func 59) #[Value.pointer (some { block := g, off := 0 })] #[]] := r65
  clear r54
  replace b51 := b51.grown b63 b51.size (by rintro k ⟨⟩; omega)
  replace h := h.gr b63 (by have := h.lt; omega)
  replace q := q.grown b63 q.size (by rintro k ⟨⟩; omega)
  have r54 := r65
  clear r65
  refine LL.nilS ?_
  refine CC.seq ?_
  refine CC.region ?_
  refine LL.val (R.move rfl rfl) rfl rfl rfl ?_
  refine LL.val (R.nil rfl rfl) rfl rfl rfl ?_
  refine LL.val (R.field rfl rfl (I.fld rfl)) rfl rfl rfl ?_
  refine LL.val (R.load rfl rfl (I.ld1 rfl (RowL.cell h rfl))) rfl rfl rfl ?_
  (refine LL.call (R.call rfl rfl rfl) rfl rfl rfl (turn_3 _ (by assumption)) ?_; rintro e W98 ⟨rfl, hN, t97⟩; refine ⟨_, rfl, ?_⟩)
  have zt97 := t97.size
  replace b51 := t97.onB b51 (fun j hj => ⟨by have := b51.size; omega, by omega⟩)
  replace h := h.kept t97 ⟨h.lt, by omega⟩
  replace q := t97.onB q (fun j hj => ⟨by have := q.size; omega, by omega⟩)
  refine LL.nilS ?_
  refine CC.seq ?_
  refine CC.region ?_
  refine LL.val (R.assign rfl rfl) rfl rfl rfl ?_
  refine LL.nilS ?_
  refine CC.ret ?_
  refine EE.ret _ rfl rfl ?_
  exact ⟨_, rfl, hN, by omega, q⟩
theorem copy_4 (g : Nat) {key slots slot ahead ptr loads found : Nat} {is dn : Bool} {w : World} (h : RowL w g 56 [.int .u64 (key : Int), .int .i64 (slots : Int), .int .i64 (slot : Int), .int .u64 (ahead : Int), .int .u64 (ptr : Int), .int .i64 ((2 * slot + 1 : Nat) : Int), .int .i64 (loads : Int), .int .u64 (found : Int), .bool is, .bool dn, .int .i64 4, .func (.func 60) #[.pointer (some ⟨g, 0, none⟩)] #[]]) : Calls Try.prog 14 #[.pointer (some ⟨g, 0, none⟩)] w fun e w' => ∃ g', e = .returned (.pointer (some ⟨g', 0, none⟩)) ∧ RowL w' g' 56 (rdR g' ⟨key, slots, slot, ahead, ptr, loads, found, is, dn, 4⟩) ∧ w.heap.size ≤ g' ∧ Below w.heap.size w w' := by
  have q := Below.refl w.heap.size w
  refine X.fn Try.func14 rfl (n := 14) rfl rfl ?_
  refine CC.seq ?_
  refine CC.region ?_
  refine LL.val (R.assign rfl rfl) rfl rfl rfl ?_
  refine LL.nilS ?_
  refine CC.seq ?_
  refine CC.seq ?_
  refine CC.region ?_
  refine LL.val (R.move rfl rfl) rfl rfl rfl ?_
  refine LL.call (R.call rfl rfl rfl) rfl rfl rfl (none_any _ (by first | assumption | omega)) ?_
  rintro e W' ⟨rfl, rfl⟩
  refine ⟨_, rfl, ?_⟩
  refine LL.nilS ?_
  refine CC.no rfl ?_
  refine CC.skip ?_
  refine EE.thenN ?_
  refine CC.seq ?_
  refine CC.region ?_
  refine LL.val (R.move rfl rfl) rfl rfl rfl ?_
  refine LL.val (R.nil rfl rfl) rfl rfl rfl ?_
  refine LL.val (R.load rfl rfl (I.ldNc (vs := [Value.int IntKind.u64 ↑key, Value.int IntKind.i64 ↑slots, Value.int IntKind.i64 ↑slot, Value.int IntKind.u64 ↑ahead, Value.int IntKind.u64 ↑ptr, Value.int IntKind.i64 ↑(2 * slot + 1), Value.int IntKind.i64 ↑loads, Value.int IntKind.u64 ↑found, Value.bool is, Value.bool dn, Value.int IntKind.i64 4, Value.func (Fn.func 60) #[Value.pointer (some { block := g, off := 0 })] #[]]) (RowL.cells h rfl) (by rfl) (by rfl))) rfl rfl rfl ?_
  have l50 := h.lt
  refine LL.alloc ([Value.int IntKind.u64 0, Value.int IntKind.i64 0, Value.int IntKind.i64 0, Value.int IntKind.u64 0, Value.int IntKind.u64 0, Value.int IntKind.i64 0, Value.int IntKind.i64 0, Value.int IntKind.u64 0, Value.bool false, Value.bool false, Value.int IntKind.i64 0, Value.nilFunc]) rfl rfl rfl rfl rfl ?_
  intro W52 g53 eg53 r54 z55 b51
  replace h := h.up b51
  replace q := q.trans (b51.mono q.size)
  refine LL.storeN (vs := [Value.int IntKind.u64 ↑key, Value.int IntKind.i64 ↑slots, Value.int IntKind.i64 ↑slot, Value.int IntKind.u64 ↑ahead, Value.int IntKind.u64 ↑ptr, Value.int IntKind.i64 ↑(2 * slot + 1), Value.int IntKind.i64 ↑loads, Value.int IntKind.u64 ↑found, Value.bool is, Value.bool dn, Value.int IntKind.i64 4, Value.func (Fn.func 60) #[Value.pointer (some { block := g, off := 0 })] #[]]) rfl rfl rfl rfl r54 (by exact Nat.le_of_ble_eq_true rfl) (ones_of rfl) rfl rfl ?_
  intro W64 r65 b63 z66
  have hlb63 := r54.lt
  replace r65 : RowL W64 _ 56 [Value.int IntKind.u64 ↑key, Value.int IntKind.i64 ↑slots, Value.int IntKind.i64 ↑slot, Value.int IntKind.u64 ↑ahead, Value.int IntKind.u64 ↑ptr, Value.int IntKind.i64 ↑(2 * slot + 1), Value.int IntKind.i64 ↑loads, Value.int IntKind.u64 ↑found, Value.bool is, Value.bool dn, Value.int IntKind.i64 4, Value.func (Fn.func 60) #[Value.pointer (some { block := g, off := 0 })] #[]] := r65
  clear r54
  replace b51 := b51.grown b63 b51.size (by rintro k ⟨⟩; omega)
  replace h := h.gr b63 (by have := h.lt; omega)
  replace q := q.grown b63 q.size (by rintro k ⟨⟩; omega)
  have r54 := r65
  clear r65
  refine LL.nilS ?_
  refine CC.seq ?_
  refine CC.region ?_
  refine LL.val (R.move rfl rfl) rfl rfl rfl ?_
  refine LL.val (R.nil rfl rfl) rfl rfl rfl ?_
  refine LL.val (R.field rfl rfl (I.fld rfl)) rfl rfl rfl ?_
  refine LL.val (R.load rfl rfl (I.ld1 rfl (RowL.cell h rfl))) rfl rfl rfl ?_
  (refine LL.call (R.call rfl rfl rfl) rfl rfl rfl (turn_4 _ (by assumption)) ?_; rintro e W98 ⟨rfl, hN, t97⟩; refine ⟨_, rfl, ?_⟩)
  have zt97 := t97.size
  replace b51 := t97.onB b51 (fun j hj => ⟨by have := b51.size; omega, by omega⟩)
  replace h := h.kept t97 ⟨h.lt, by omega⟩
  replace q := t97.onB q (fun j hj => ⟨by have := q.size; omega, by omega⟩)
  refine LL.nilS ?_
  refine CC.seq ?_
  refine CC.region ?_
  refine LL.val (R.assign rfl rfl) rfl rfl rfl ?_
  refine LL.nilS ?_
  refine CC.ret ?_
  refine EE.ret _ rfl rfl ?_
  exact ⟨_, rfl, hN, by omega, q⟩
theorem copy_5 (g : Nat) {key slots slot ahead ptr loads found : Nat} {is dn : Bool} {w : World} (h : RowL w g 56 [.int .u64 (key : Int), .int .i64 (slots : Int), .int .i64 (slot : Int), .int .u64 (ahead : Int), .int .u64 (ptr : Int), .int .i64 ((2 * slot : Nat) : Int), .int .i64 (loads : Int), .int .u64 (found : Int), .bool is, .bool dn, .int .i64 5, .func (.func 61) #[.pointer (some ⟨g, 0, none⟩)] #[]]) : Calls Try.prog 14 #[.pointer (some ⟨g, 0, none⟩)] w fun e w' => ∃ g', e = .returned (.pointer (some ⟨g', 0, none⟩)) ∧ RowL w' g' 56 (rdR g' ⟨key, slots, slot, ahead, ptr, loads, found, is, dn, 5⟩) ∧ w.heap.size ≤ g' ∧ Below w.heap.size w w' := by
  have q := Below.refl w.heap.size w
  refine X.fn Try.func14 rfl (n := 14) rfl rfl ?_
  refine CC.seq ?_
  refine CC.region ?_
  refine LL.val (R.assign rfl rfl) rfl rfl rfl ?_
  refine LL.nilS ?_
  refine CC.seq ?_
  refine CC.seq ?_
  refine CC.region ?_
  refine LL.val (R.move rfl rfl) rfl rfl rfl ?_
  refine LL.call (R.call rfl rfl rfl) rfl rfl rfl (none_any _ (by first | assumption | omega)) ?_
  rintro e W' ⟨rfl, rfl⟩
  refine ⟨_, rfl, ?_⟩
  refine LL.nilS ?_
  refine CC.no rfl ?_
  refine CC.skip ?_
  refine EE.thenN ?_
  refine CC.seq ?_
  refine CC.region ?_
  refine LL.val (R.move rfl rfl) rfl rfl rfl ?_
  refine LL.val (R.nil rfl rfl) rfl rfl rfl ?_
  refine LL.val (R.load rfl rfl (I.ldNc (vs := [Value.int IntKind.u64 ↑key, Value.int IntKind.i64 ↑slots, Value.int IntKind.i64 ↑slot, Value.int IntKind.u64 ↑ahead, Value.int IntKind.u64 ↑ptr, Value.int IntKind.i64 ↑(2 * slot), Value.int IntKind.i64 ↑loads, Value.int IntKind.u64 ↑found, Value.bool is, Value.bool dn, Value.int IntKind.i64 5, Value.func (Fn.func 61) #[Value.pointer (some { block := g, off := 0 })] #[]]) (RowL.cells h rfl) (by rfl) (by rfl))) rfl rfl rfl ?_
  have l50 := h.lt
  refine LL.alloc ([Value.int IntKind.u64 0, Value.int IntKind.i64 0, Value.int IntKind.i64 0, Value.int IntKind.u64 0, Value.int IntKind.u64 0, Value.int IntKind.i64 0, Value.int IntKind.i64 0, Value.int IntKind.u64 0, Value.bool false, Value.bool false, Value.int IntKind.i64 0, Value.nilFunc]) rfl rfl rfl rfl rfl ?_
  intro W52 g53 eg53 r54 z55 b51
  replace h := h.up b51
  replace q := q.trans (b51.mono q.size)
  refine LL.storeN (vs := [Value.int IntKind.u64 ↑key, Value.int IntKind.i64 ↑slots, Value.int IntKind.i64 ↑slot, Value.int IntKind.u64 ↑ahead, Value.int IntKind.u64 ↑ptr, Value.int IntKind.i64 ↑(2 * slot), Value.int IntKind.i64 ↑loads, Value.int IntKind.u64 ↑found, Value.bool is, Value.bool dn, Value.int IntKind.i64 5, Value.func (Fn.func 61) #[Value.pointer (some { block := g, off := 0 })] #[]]) rfl rfl rfl rfl r54 (by exact Nat.le_of_ble_eq_true rfl) (ones_of rfl) rfl rfl ?_
  intro W64 r65 b63 z66
  have hlb63 := r54.lt
  replace r65 : RowL W64 _ 56 [Value.int IntKind.u64 ↑key, Value.int IntKind.i64 ↑slots, Value.int IntKind.i64 ↑slot, Value.int IntKind.u64 ↑ahead, Value.int IntKind.u64 ↑ptr, Value.int IntKind.i64 ↑(2 * slot), Value.int IntKind.i64 ↑loads, Value.int IntKind.u64 ↑found, Value.bool is, Value.bool dn, Value.int IntKind.i64 5, Value.func (Fn.func 61) #[Value.pointer (some { block := g, off := 0 })] #[]] := r65
  clear r54
  replace b51 := b51.grown b63 b51.size (by rintro k ⟨⟩; omega)
  replace h := h.gr b63 (by have := h.lt; omega)
  replace q := q.grown b63 q.size (by rintro k ⟨⟩; omega)
  have r54 := r65
  clear r65
  refine LL.nilS ?_
  refine CC.seq ?_
  refine CC.region ?_
  refine LL.val (R.move rfl rfl) rfl rfl rfl ?_
  refine LL.val (R.nil rfl rfl) rfl rfl rfl ?_
  refine LL.val (R.field rfl rfl (I.fld rfl)) rfl rfl rfl ?_
  refine LL.val (R.load rfl rfl (I.ld1 rfl (RowL.cell h rfl))) rfl rfl rfl ?_
  (refine LL.call (R.call rfl rfl rfl) rfl rfl rfl (turn_5 _ (by assumption)) ?_; rintro e W98 ⟨rfl, hN, t97⟩; refine ⟨_, rfl, ?_⟩)
  have zt97 := t97.size
  replace b51 := t97.onB b51 (fun j hj => ⟨by have := b51.size; omega, by omega⟩)
  replace h := h.kept t97 ⟨h.lt, by omega⟩
  replace q := t97.onB q (fun j hj => ⟨by have := q.size; omega, by omega⟩)
  refine LL.nilS ?_
  refine CC.seq ?_
  refine CC.region ?_
  refine LL.val (R.assign rfl rfl) rfl rfl rfl ?_
  refine LL.nilS ?_
  refine CC.ret ?_
  refine EE.ret _ rfl rfl ?_
  exact ⟨_, rfl, hN, by omega, q⟩
theorem copy_6 (g : Nat) {key slots slot ahead ptr loads found : Nat} {is dn : Bool} {w : World} (h : RowL w g 56 [.int .u64 (key : Int), .int .i64 (slots : Int), .int .i64 (slot : Int), .int .u64 (ahead : Int), .int .u64 (ptr : Int), .int .i64 ((2 * slot + 1 : Nat) : Int), .int .i64 (loads : Int), .int .u64 (found : Int), .bool is, .bool dn, .int .i64 6, .func (.func 62) #[.pointer (some ⟨g, 0, none⟩)] #[]]) : Calls Try.prog 14 #[.pointer (some ⟨g, 0, none⟩)] w fun e w' => ∃ g', e = .returned (.pointer (some ⟨g', 0, none⟩)) ∧ RowL w' g' 56 (rdR g' ⟨key, slots, slot, ahead, ptr, loads, found, is, dn, 6⟩) ∧ w.heap.size ≤ g' ∧ Below w.heap.size w w' := by
  have q := Below.refl w.heap.size w
  refine X.fn Try.func14 rfl (n := 14) rfl rfl ?_
  refine CC.seq ?_
  refine CC.region ?_
  refine LL.val (R.assign rfl rfl) rfl rfl rfl ?_
  refine LL.nilS ?_
  refine CC.seq ?_
  refine CC.seq ?_
  refine CC.region ?_
  refine LL.val (R.move rfl rfl) rfl rfl rfl ?_
  refine LL.call (R.call rfl rfl rfl) rfl rfl rfl (none_any _ (by first | assumption | omega)) ?_
  rintro e W' ⟨rfl, rfl⟩
  refine ⟨_, rfl, ?_⟩
  refine LL.nilS ?_
  refine CC.no rfl ?_
  refine CC.skip ?_
  refine EE.thenN ?_
  refine CC.seq ?_
  refine CC.region ?_
  refine LL.val (R.move rfl rfl) rfl rfl rfl ?_
  refine LL.val (R.nil rfl rfl) rfl rfl rfl ?_
  refine LL.val (R.load rfl rfl (I.ldNc (vs := [Value.int IntKind.u64 ↑key, Value.int IntKind.i64 ↑slots, Value.int IntKind.i64 ↑slot, Value.int IntKind.u64 ↑ahead, Value.int IntKind.u64 ↑ptr, Value.int IntKind.i64 ↑(2 * slot + 1), Value.int IntKind.i64 ↑loads, Value.int IntKind.u64 ↑found, Value.bool is, Value.bool dn, Value.int IntKind.i64 6, Value.func (Fn.func 62) #[Value.pointer (some { block := g, off := 0 })] #[]]) (RowL.cells h rfl) (by rfl) (by rfl))) rfl rfl rfl ?_
  have l50 := h.lt
  refine LL.alloc ([Value.int IntKind.u64 0, Value.int IntKind.i64 0, Value.int IntKind.i64 0, Value.int IntKind.u64 0, Value.int IntKind.u64 0, Value.int IntKind.i64 0, Value.int IntKind.i64 0, Value.int IntKind.u64 0, Value.bool false, Value.bool false, Value.int IntKind.i64 0, Value.nilFunc]) rfl rfl rfl rfl rfl ?_
  intro W52 g53 eg53 r54 z55 b51
  replace h := h.up b51
  replace q := q.trans (b51.mono q.size)
  refine LL.storeN (vs := [Value.int IntKind.u64 ↑key, Value.int IntKind.i64 ↑slots, Value.int IntKind.i64 ↑slot, Value.int IntKind.u64 ↑ahead, Value.int IntKind.u64 ↑ptr, Value.int IntKind.i64 ↑(2 * slot + 1), Value.int IntKind.i64 ↑loads, Value.int IntKind.u64 ↑found, Value.bool is, Value.bool dn, Value.int IntKind.i64 6, Value.func (Fn.func 62) #[Value.pointer (some { block := g, off := 0 })] #[]]) rfl rfl rfl rfl r54 (by exact Nat.le_of_ble_eq_true rfl) (ones_of rfl) rfl rfl ?_
  intro W64 r65 b63 z66
  have hlb63 := r54.lt
  replace r65 : RowL W64 _ 56 [Value.int IntKind.u64 ↑key, Value.int IntKind.i64 ↑slots, Value.int IntKind.i64 ↑slot, Value.int IntKind.u64 ↑ahead, Value.int IntKind.u64 ↑ptr, Value.int IntKind.i64 ↑(2 * slot + 1), Value.int IntKind.i64 ↑loads, Value.int IntKind.u64 ↑found, Value.bool is, Value.bool dn, Value.int IntKind.i64 6, Value.func (Fn.func 62) #[Value.pointer (some { block := g, off := 0 })] #[]] := r65
  clear r54
  replace b51 := b51.grown b63 b51.size (by rintro k ⟨⟩; omega)
  replace h := h.gr b63 (by have := h.lt; omega)
  replace q := q.grown b63 q.size (by rintro k ⟨⟩; omega)
  have r54 := r65
  clear r65
  refine LL.nilS ?_
  refine CC.seq ?_
  refine CC.region ?_
  refine LL.val (R.move rfl rfl) rfl rfl rfl ?_
  refine LL.val (R.nil rfl rfl) rfl rfl rfl ?_
  refine LL.val (R.field rfl rfl (I.fld rfl)) rfl rfl rfl ?_
  refine LL.val (R.load rfl rfl (I.ld1 rfl (RowL.cell h rfl))) rfl rfl rfl ?_
  (refine LL.call (R.call rfl rfl rfl) rfl rfl rfl (turn_6 _ (by assumption)) ?_; rintro e W98 ⟨rfl, hN, t97⟩; refine ⟨_, rfl, ?_⟩)
  have zt97 := t97.size
  replace b51 := t97.onB b51 (fun j hj => ⟨by have := b51.size; omega, by omega⟩)
  replace h := h.kept t97 ⟨h.lt, by omega⟩
  replace q := t97.onB q (fun j hj => ⟨by have := q.size; omega, by omega⟩)
  refine LL.nilS ?_
  refine CC.seq ?_
  refine CC.region ?_
  refine LL.val (R.assign rfl rfl) rfl rfl rfl ?_
  refine LL.nilS ?_
  refine CC.ret ?_
  refine EE.ret _ rfl rfl ?_
  exact ⟨_, rfl, hN, by omega, q⟩
theorem copy_7 (g : Nat) {key slots slot ahead ptr loads found : Nat} {is dn : Bool} {w : World} (h : RowL w g 56 [.int .u64 (key : Int), .int .i64 (slots : Int), .int .i64 (slot : Int), .int .u64 (ahead : Int), .int .u64 (ptr : Int), .int .i64 (2 * (slot : Int) - 1), .int .i64 (loads : Int), .int .u64 (found : Int), .bool is, .bool dn, .int .i64 7, .func (.func 63) #[.pointer (some ⟨g, 0, none⟩)] #[]]) : Calls Try.prog 14 #[.pointer (some ⟨g, 0, none⟩)] w fun e w' => ∃ g', e = .returned (.pointer (some ⟨g', 0, none⟩)) ∧ RowL w' g' 56 (rdR g' ⟨key, slots, slot, ahead, ptr, loads, found, is, dn, 7⟩) ∧ w.heap.size ≤ g' ∧ Below w.heap.size w w' := by
  have q := Below.refl w.heap.size w
  refine X.fn Try.func14 rfl (n := 14) rfl rfl ?_
  refine CC.seq ?_
  refine CC.region ?_
  refine LL.val (R.assign rfl rfl) rfl rfl rfl ?_
  refine LL.nilS ?_
  refine CC.seq ?_
  refine CC.seq ?_
  refine CC.region ?_
  refine LL.val (R.move rfl rfl) rfl rfl rfl ?_
  refine LL.call (R.call rfl rfl rfl) rfl rfl rfl (none_any _ (by first | assumption | omega)) ?_
  rintro e W' ⟨rfl, rfl⟩
  refine ⟨_, rfl, ?_⟩
  refine LL.nilS ?_
  refine CC.no rfl ?_
  refine CC.skip ?_
  refine EE.thenN ?_
  refine CC.seq ?_
  refine CC.region ?_
  refine LL.val (R.move rfl rfl) rfl rfl rfl ?_
  refine LL.val (R.nil rfl rfl) rfl rfl rfl ?_
  refine LL.val (R.load rfl rfl (I.ldNc (vs := [Value.int IntKind.u64 ↑key, Value.int IntKind.i64 ↑slots, Value.int IntKind.i64 ↑slot, Value.int IntKind.u64 ↑ahead, Value.int IntKind.u64 ↑ptr, Value.int IntKind.i64 (2 * ↑slot - 1), Value.int IntKind.i64 ↑loads, Value.int IntKind.u64 ↑found, Value.bool is, Value.bool dn, Value.int IntKind.i64 7, Value.func (Fn.func 63) #[Value.pointer (some { block := g, off := 0 })] #[]]) (RowL.cells h rfl) (by rfl) (by rfl))) rfl rfl rfl ?_
  have l50 := h.lt
  refine LL.alloc ([Value.int IntKind.u64 0, Value.int IntKind.i64 0, Value.int IntKind.i64 0, Value.int IntKind.u64 0, Value.int IntKind.u64 0, Value.int IntKind.i64 0, Value.int IntKind.i64 0, Value.int IntKind.u64 0, Value.bool false, Value.bool false, Value.int IntKind.i64 0, Value.nilFunc]) rfl rfl rfl rfl rfl ?_
  intro W52 g53 eg53 r54 z55 b51
  replace h := h.up b51
  replace q := q.trans (b51.mono q.size)
  refine LL.storeN (vs := [Value.int IntKind.u64 ↑key, Value.int IntKind.i64 ↑slots, Value.int IntKind.i64 ↑slot, Value.int IntKind.u64 ↑ahead, Value.int IntKind.u64 ↑ptr, Value.int IntKind.i64 (2 * ↑slot - 1), Value.int IntKind.i64 ↑loads, Value.int IntKind.u64 ↑found, Value.bool is, Value.bool dn, Value.int IntKind.i64 7, Value.func (Fn.func 63) #[Value.pointer (some { block := g, off := 0 })] #[]]) rfl rfl rfl rfl r54 (by exact Nat.le_of_ble_eq_true rfl) (ones_of rfl) rfl rfl ?_
  intro W64 r65 b63 z66
  have hlb63 := r54.lt
  replace r65 : RowL W64 _ 56 [Value.int IntKind.u64 ↑key, Value.int IntKind.i64 ↑slots, Value.int IntKind.i64 ↑slot, Value.int IntKind.u64 ↑ahead, Value.int IntKind.u64 ↑ptr, Value.int IntKind.i64 (2 * ↑slot - 1), Value.int IntKind.i64 ↑loads, Value.int IntKind.u64 ↑found, Value.bool is, Value.bool dn, Value.int IntKind.i64 7, Value.func (Fn.func 63) #[Value.pointer (some { block := g, off := 0 })] #[]] := r65
  clear r54
  replace b51 := b51.grown b63 b51.size (by rintro k ⟨⟩; omega)
  replace h := h.gr b63 (by have := h.lt; omega)
  replace q := q.grown b63 q.size (by rintro k ⟨⟩; omega)
  have r54 := r65
  clear r65
  refine LL.nilS ?_
  refine CC.seq ?_
  refine CC.region ?_
  refine LL.val (R.move rfl rfl) rfl rfl rfl ?_
  refine LL.val (R.nil rfl rfl) rfl rfl rfl ?_
  refine LL.val (R.field rfl rfl (I.fld rfl)) rfl rfl rfl ?_
  refine LL.val (R.load rfl rfl (I.ld1 rfl (RowL.cell h rfl))) rfl rfl rfl ?_
  (refine LL.call (R.call rfl rfl rfl) rfl rfl rfl (turn_7 _ (by assumption)) ?_; rintro e W98 ⟨rfl, hN, t97⟩; refine ⟨_, rfl, ?_⟩)
  have zt97 := t97.size
  replace b51 := t97.onB b51 (fun j hj => ⟨by have := b51.size; omega, by omega⟩)
  replace h := h.kept t97 ⟨h.lt, by omega⟩
  replace q := t97.onB q (fun j hj => ⟨by have := q.size; omega, by omega⟩)
  refine LL.nilS ?_
  refine CC.seq ?_
  refine CC.region ?_
  refine LL.val (R.assign rfl rfl) rfl rfl rfl ?_
  refine LL.nilS ?_
  refine CC.ret ?_
  refine EE.ret _ rfl rfl ?_
  exact ⟨_, rfl, hN, by omega, q⟩
theorem copy_8 (g : Nat) {key slots slot ahead ptr loads found : Nat} {is dn : Bool} {w : World} (h : RowL w g 56 [.int .u64 (key : Int), .int .i64 (slots : Int), .int .i64 (slot : Int), .int .u64 (ahead : Int), .int .u64 (ptr : Int), .int .i64 ((2 * slot : Nat) : Int), .int .i64 (loads : Int), .int .u64 (found : Int), .bool is, .bool dn, .int .i64 8, .func (.func 64) #[.pointer (some ⟨g, 0, none⟩)] #[]]) : Calls Try.prog 14 #[.pointer (some ⟨g, 0, none⟩)] w fun e w' => ∃ g', e = .returned (.pointer (some ⟨g', 0, none⟩)) ∧ RowL w' g' 56 (rdR g' ⟨key, slots, slot, ahead, ptr, loads, found, is, dn, 8⟩) ∧ w.heap.size ≤ g' ∧ Below w.heap.size w w' := by
  have q := Below.refl w.heap.size w
  refine X.fn Try.func14 rfl (n := 14) rfl rfl ?_
  refine CC.seq ?_
  refine CC.region ?_
  refine LL.val (R.assign rfl rfl) rfl rfl rfl ?_
  refine LL.nilS ?_
  refine CC.seq ?_
  refine CC.seq ?_
  refine CC.region ?_
  refine LL.val (R.move rfl rfl) rfl rfl rfl ?_
  refine LL.call (R.call rfl rfl rfl) rfl rfl rfl (none_any _ (by first | assumption | omega)) ?_
  rintro e W' ⟨rfl, rfl⟩
  refine ⟨_, rfl, ?_⟩
  refine LL.nilS ?_
  refine CC.no rfl ?_
  refine CC.skip ?_
  refine EE.thenN ?_
  refine CC.seq ?_
  refine CC.region ?_
  refine LL.val (R.move rfl rfl) rfl rfl rfl ?_
  refine LL.val (R.nil rfl rfl) rfl rfl rfl ?_
  refine LL.val (R.load rfl rfl (I.ldNc (vs := [Value.int IntKind.u64 ↑key, Value.int IntKind.i64 ↑slots, Value.int IntKind.i64 ↑slot, Value.int IntKind.u64 ↑ahead, Value.int IntKind.u64 ↑ptr, Value.int IntKind.i64 ↑(2 * slot), Value.int IntKind.i64 ↑loads, Value.int IntKind.u64 ↑found, Value.bool is, Value.bool dn, Value.int IntKind.i64 8, Value.func (Fn.func 64) #[Value.pointer (some { block := g, off := 0 })] #[]]) (RowL.cells h rfl) (by rfl) (by rfl))) rfl rfl rfl ?_
  have l50 := h.lt
  refine LL.alloc ([Value.int IntKind.u64 0, Value.int IntKind.i64 0, Value.int IntKind.i64 0, Value.int IntKind.u64 0, Value.int IntKind.u64 0, Value.int IntKind.i64 0, Value.int IntKind.i64 0, Value.int IntKind.u64 0, Value.bool false, Value.bool false, Value.int IntKind.i64 0, Value.nilFunc]) rfl rfl rfl rfl rfl ?_
  intro W52 g53 eg53 r54 z55 b51
  replace h := h.up b51
  replace q := q.trans (b51.mono q.size)
  refine LL.storeN (vs := [Value.int IntKind.u64 ↑key, Value.int IntKind.i64 ↑slots, Value.int IntKind.i64 ↑slot, Value.int IntKind.u64 ↑ahead, Value.int IntKind.u64 ↑ptr, Value.int IntKind.i64 ↑(2 * slot), Value.int IntKind.i64 ↑loads, Value.int IntKind.u64 ↑found, Value.bool is, Value.bool dn, Value.int IntKind.i64 8, Value.func (Fn.func 64) #[Value.pointer (some { block := g, off := 0 })] #[]]) rfl rfl rfl rfl r54 (by exact Nat.le_of_ble_eq_true rfl) (ones_of rfl) rfl rfl ?_
  intro W64 r65 b63 z66
  have hlb63 := r54.lt
  replace r65 : RowL W64 _ 56 [Value.int IntKind.u64 ↑key, Value.int IntKind.i64 ↑slots, Value.int IntKind.i64 ↑slot, Value.int IntKind.u64 ↑ahead, Value.int IntKind.u64 ↑ptr, Value.int IntKind.i64 ↑(2 * slot), Value.int IntKind.i64 ↑loads, Value.int IntKind.u64 ↑found, Value.bool is, Value.bool dn, Value.int IntKind.i64 8, Value.func (Fn.func 64) #[Value.pointer (some { block := g, off := 0 })] #[]] := r65
  clear r54
  replace b51 := b51.grown b63 b51.size (by rintro k ⟨⟩; omega)
  replace h := h.gr b63 (by have := h.lt; omega)
  replace q := q.grown b63 q.size (by rintro k ⟨⟩; omega)
  have r54 := r65
  clear r65
  refine LL.nilS ?_
  refine CC.seq ?_
  refine CC.region ?_
  refine LL.val (R.move rfl rfl) rfl rfl rfl ?_
  refine LL.val (R.nil rfl rfl) rfl rfl rfl ?_
  refine LL.val (R.field rfl rfl (I.fld rfl)) rfl rfl rfl ?_
  refine LL.val (R.load rfl rfl (I.ld1 rfl (RowL.cell h rfl))) rfl rfl rfl ?_
  (refine LL.call (R.call rfl rfl rfl) rfl rfl rfl (turn_8 _ (by assumption)) ?_; rintro e W98 ⟨rfl, hN, t97⟩; refine ⟨_, rfl, ?_⟩)
  have zt97 := t97.size
  replace b51 := t97.onB b51 (fun j hj => ⟨by have := b51.size; omega, by omega⟩)
  replace h := h.kept t97 ⟨h.lt, by omega⟩
  replace q := t97.onB q (fun j hj => ⟨by have := q.size; omega, by omega⟩)
  refine LL.nilS ?_
  refine CC.seq ?_
  refine CC.region ?_
  refine LL.val (R.assign rfl rfl) rfl rfl rfl ?_
  refine LL.nilS ?_
  refine CC.ret ?_
  refine EE.ret _ rfl rfl ?_
  exact ⟨_, rfl, hN, by omega, q⟩
theorem copy_any (g : Nat) (r : Rd) {w : World} (h : RowL w g 56 (rdR g r)) (hk : r.k ≤ 8) : Calls Try.prog 14 #[.pointer (some ⟨g, 0, none⟩)] w fun e w' => ∃ g', e = .returned (.pointer (some ⟨g', 0, none⟩)) ∧ RowL w' g' 56 (rdR g' r) ∧ w.heap.size ≤ g' ∧ Below w.heap.size w w' := by
  obtain ⟨key, slots, slot, ahead, ptr, loads, found, is, dn, k⟩ := r
  simp only at hk
  rcases (by omega : k = 0 ∨ k = 1 ∨ k = 2 ∨ k = 3 ∨ k = 4 ∨ k = 5 ∨ k = 6 ∨ k = 7 ∨ k = 8) with rfl | rfl | rfl | rfl | rfl | rfl | rfl | rfl | rfl
  · exact copy_0 g h
  · exact copy_1 g h
  · exact copy_2 g h
  · exact copy_3 g h
  · exact copy_4 g h
  · exact copy_5 g h
  · exact copy_6 g h
  · exact copy_7 g h
  · exact copy_8 g h
theorem zKeys : KeyE Try.prog 22 (.int .i64) (fun z : Int => .int .i64 z) := ⟨by kernel_rfl, fun _ => rfl, fun a b h => by
  simp only [Value.int.injEq, true_and] at h
  exact h⟩
def fK (f : Nat) : Value := .func (.func f) #[] #[]
def waysF : Int → Option Nat := putMap (putMap (fun _ => none) 1 (some 54)) 2 (some 55)
theorem ways_any (w : World) : Calls Try.prog 37 #[] w fun e w' => ∃ m n, e = .returned (.map (some m)) ∧ MapK (.int .i64) (fun z : Int => .int .i64 z) fK w' m n waysF ∧ Below w.heap.size w w' := by
  have q := Below.refl w.heap.size w
  refine X.fn Try.func37 rfl (n := 3) rfl rfl ?_
  refine CC.seq ?_
  refine CC.region ?_
  refine LL.val (R.assign rfl rfl) rfl rfl rfl ?_
  refine LL.nilS ?_
  refine CC.seq ?_
  refine CC.region ?_
  (refine LL.makeMap (R.makeMap0 rfl) rfl rfl rfl ?_; intro W25 qb eqb mk zqb b22; replace mk := mk Int Nat (.int .i64) (fun z : Int => .int .i64 z) fK)
  have zb22 := b22.size
  replace q := q.trans (b22.mono q.size)
  (refine LL.mput (.inr rfl) rfl zKeys rfl mk (1 : Int) 54 rfl rfl rfl rfl rfl ?_; intro W39 mq gr37 zz5; replace mk := mq; clear mq)
  have zgr37 := gr37.size
  replace b22 := b22.grown gr37 b22.size (by rintro k ⟨⟩; omega)
  replace q := q.grown gr37 q.size (by rintro k ⟨⟩; omega)
  (refine LL.mput (.inr rfl) rfl zKeys rfl mk (2 : Int) 55 rfl rfl rfl rfl rfl ?_; intro W60 mq gr58 zz5; replace mk := mq; clear mq)
  have zgr58 := gr58.size
  replace b22 := b22.grown gr58 b22.size (by rintro k ⟨⟩; omega)
  replace q := q.grown gr58 q.size (by rintro k ⟨⟩; omega)
  refine LL.val (R.move rfl rfl) rfl rfl rfl ?_
  refine LL.val (R.assign rfl rfl) rfl rfl rfl ?_
  refine LL.nilS ?_
  refine CC.ret ?_
  refine EE.ret _ rfl rfl ?_
  exact ⟨_, _, rfl, mk, q⟩
--C scan_within_int | within_any _ _ _ @w | ⟨rfl, rfl⟩
theorem within_any (n lo hi : Int) (w : World) : Calls Try.prog 38 #[.int .i64 n, .int .i64 lo, .int .i64 hi] w fun e w' => e = .returned (.bool (decide (lo ≤ n ∧ n ≤ hi))) ∧ w = w' := by
  by_cases h1 : lo ≤ n
  · by_cases h2 : n ≤ hi
    · rw [decide_eq_true (by omega)]
      refine X.fn Try.func38 rfl (n := 15) rfl rfl ?_
      refine CC.seq ?_
      refine CC.region ?_
      refine LL.val (R.assign rfl rfl) rfl rfl rfl ?_
      refine LL.nilS ?_
      refine CC.seq ?_
      refine CC.region ?_
      refine LL.val (R.move rfl rfl) rfl rfl rfl ?_
      refine LL.val (R.move rfl rfl) rfl rfl rfl ?_
      refine LL.val (R.leT rfl rfl rfl (by omega)) rfl rfl rfl ?_
      refine LL.val (R.move rfl rfl) rfl rfl rfl ?_
      refine LL.val (R.move rfl rfl) rfl rfl rfl ?_
      refine LL.val (R.move rfl rfl) rfl rfl rfl ?_
      refine LL.val (R.leT rfl rfl rfl (by omega)) rfl rfl rfl ?_
      refine LL.val (R.pick rfl rfl rfl) rfl rfl rfl ?_
      refine LL.val (R.assign rfl rfl) rfl rfl rfl ?_
      refine LL.nilS ?_
      refine CC.ret ?_
      refine EE.ret _ rfl rfl ?_
      exact ⟨rfl, rfl⟩
    · rw [decide_eq_false (by omega)]
      refine X.fn Try.func38 rfl (n := 15) rfl rfl ?_
      refine CC.seq ?_
      refine CC.region ?_
      refine LL.val (R.assign rfl rfl) rfl rfl rfl ?_
      refine LL.nilS ?_
      refine CC.seq ?_
      refine CC.region ?_
      refine LL.val (R.move rfl rfl) rfl rfl rfl ?_
      refine LL.val (R.move rfl rfl) rfl rfl rfl ?_
      refine LL.val (R.leT rfl rfl rfl (by omega)) rfl rfl rfl ?_
      refine LL.val (R.move rfl rfl) rfl rfl rfl ?_
      refine LL.val (R.move rfl rfl) rfl rfl rfl ?_
      refine LL.val (R.move rfl rfl) rfl rfl rfl ?_
      refine LL.val (R.leF rfl rfl rfl (by omega)) rfl rfl rfl ?_
      refine LL.val (R.pick rfl rfl rfl) rfl rfl rfl ?_
      refine LL.val (R.assign rfl rfl) rfl rfl rfl ?_
      refine LL.nilS ?_
      refine CC.ret ?_
      refine EE.ret _ rfl rfl ?_
      exact ⟨rfl, rfl⟩
  · rw [decide_eq_false (by omega)]
    refine X.fn Try.func38 rfl (n := 15) rfl rfl ?_
    refine CC.seq ?_
    refine CC.region ?_
    refine LL.val (R.assign rfl rfl) rfl rfl rfl ?_
    refine LL.nilS ?_
    refine CC.seq ?_
    refine CC.region ?_
    refine LL.val (R.move rfl rfl) rfl rfl rfl ?_
    refine LL.val (R.move rfl rfl) rfl rfl rfl ?_
    refine LL.val (R.leF rfl rfl rfl (by omega)) rfl rfl rfl ?_
    refine LL.val (R.move rfl rfl) rfl rfl rfl ?_
    refine LL.skip rfl rfl ?_
    refine LL.skip rfl rfl ?_
    refine LL.skip rfl rfl ?_
    refine LL.val (R.pick rfl rfl rfl) rfl rfl rfl ?_
    refine LL.val (R.assign rfl rfl) rfl rfl rfl ?_
    refine LL.nilS ?_
    refine CC.ret ?_
    refine EE.ret _ rfl rfl ?_
    exact ⟨rfl, rfl⟩
end Go.Proofs.Ytloflmkolnediaa

/- scan: the loads of a reader in a row that stays. -/
namespace Go.Proofs.Ytloflmkolnediaa
set_option linter.unusedVariables false
set_option linter.unusedSimpArgs false
open Go.RowKit Go.Shelf
/-- How many loads there may still be. -/
def muR (r : Rd) : Nat := if r.dn then 0 else match r.k with
  | 0 => 4 * (r.slots - r.slot)
  | 1 => 4 * (r.slots - r.slot) - 1
  | 2 => 4 * (r.slots - r.slot) - 2
  | 3 => 4 * (r.slots - r.slot) - 3
  | 4 => 4 * (r.slots - r.slot) - 1
  | 5 => 4 * (r.slot + 1)
  | 6 => 4 * (r.slot + 1) - 1
  | 7 => 4 * (r.slot + 1) - 2
  | _ => 4 * (r.slot + 1) - 3
structure InvR (r : Rd) : Prop where
  k : r.k ≤ 8
  slot : r.slot < r.slots
  slots : r.slots ≤ 28
  loads : r.loads + muR r ≤ 4 * r.slots
  none : r.dn = false → r.found = 0 ∧ r.is = false
theorem InvR.big {r : Rd} (h : InvR r) : r.loads ≤ 1000000 := by
  have := h.loads; have := h.slots; omega
theorem mu_pos {r : Rd} (h : InvR r) (hd : r.dn = false) : 0 < muR r := by
  have := h.slot
  unfold muR
  rw [hd]
  simp only [Bool.false_eq_true, if_false]
  split <;> omega
theorem mu_dn {r : Rd} (hd : r.dn = true) : muR r = 0 := by unfold muR; rw [hd]; rfl
theorem give_key (r : Rd) (v : Nat) : (giveR r v).key = r.key ∧ (giveR r v).slots = r.slots ∧ (giveR r v).loads = r.loads + 1 := by
  unfold giveR gotR upOnR downOnR endR
  repeat' split
  all_goals exact ⟨rfl, rfl, rfl⟩
theorem give_inv {r : Rd} (h : InvR r) (hd : r.dn = false) (v : Nat) : InvR (giveR r v) ∧ muR (giveR r v) + 1 ≤ muR r := by
  obtain ⟨key, slots, slot, ahead, ptr, loads, found, is, dn, k⟩ := r
  obtain ⟨h1, h2, h3, h4, h5⟩ := h
  simp only at h1 h2 h3 hd
  subst hd
  obtain ⟨h5, h6⟩ := h5 rfl
  simp only at h5 h6
  subst h5 h6
  simp only [muR] at h4
  rcases (by omega : k = 0 ∨ k = 1 ∨ k = 2 ∨ k = 3 ∨ k = 4 ∨ k = 5 ∨ k = 6 ∨ k = 7 ∨ k = 8) with rfl | rfl | rfl | rfl | rfl | rfl | rfl | rfl | rfl <;>
    simp only [giveR, gotR, upOnR, downOnR, endR] <;> (repeat' split) <;>
    (simp only [Bool.false_eq_true, if_false] at h4
     refine ⟨⟨?_, ?_, ?_, ?_, ?_⟩, ?_⟩ <;> simp only [muR, Bool.false_eq_true, if_false, if_true, reduceCtorEq, false_implies] <;> first | omega | exact fun _ => ⟨rfl, rfl⟩ | exact fun _ => ⟨trivial, trivial⟩ | simp)
/-- What stands at a word. -/
def atW (left : Nat) (s : List Nat) (a : Int) : Nat := if a < 0 then left else (s[a.toNat]?).getD 0
def wantR (r : Rd) : Int := wantI r.k r.slot
theorem want_ge (r : Rd) : -1 ≤ wantR r := by
  unfold wantR wantI
  split <;> omega
theorem want_lt {r : Rd} (h : InvR r) : wantR r < 2 * (r.slots : Int) := by
  have := h.slot
  unfold wantR wantI
  split <;> omega
section
variable (left : Nat) (s : List Nat)
def nextR (r : Rd) : Rd := giveR r (atW left s (wantR r))
def runF : Nat → Rd → Rd
  | 0, r => r
  | n + 1, r => if r.dn then r else runF n (nextR left s r)
def trF : Nat → Rd → List (Int × Nat)
  | 0, _ => []
  | n + 1, r => if r.dn then [] else (wantR r, atW left s (wantR r)) :: trF n (nextR left s r)
def endOf (r : Rd) : Rd := runF left s (muR r) r
def trL (r : Rd) : List (Int × Nat) := trF left s (muR r) r
theorem runF_dn {n : Nat} {r : Rd} (hd : r.dn = true) : runF left s n r = r := by
  cases n with
  | zero => rfl
  | succ n => simp [runF, hd]
theorem trF_dn {n : Nat} {r : Rd} (hd : r.dn = true) : trF left s n r = [] := by
  cases n with
  | zero => rfl
  | succ n => simp [trF, hd]
theorem fuel : ∀ (n m : Nat) (r : Rd), InvR r → muR r ≤ n → muR r ≤ m → runF left s n r = runF left s m r ∧ trF left s n r = trF left s m r := by
  intro n
  induction n with
  | zero =>
    intro m r h hn hm
    cases hd : r.dn with
    | true => rw [runF_dn left s hd, runF_dn left s hd, trF_dn left s hd, trF_dn left s hd]; exact ⟨rfl, rfl⟩
    | false => have := mu_pos h hd; omega
  | succ n ih =>
    intro m r h hn hm
    cases hd : r.dn with
    | true => rw [runF_dn left s hd, runF_dn left s hd, trF_dn left s hd, trF_dn left s hd]; exact ⟨rfl, rfl⟩
    | false =>
      have hp := mu_pos h hd
      obtain ⟨m, rfl⟩ : ∃ k, m = k + 1 := ⟨m - 1, by omega⟩
      obtain ⟨h1, h2⟩ := give_inv h hd (atW left s (wantR r))
      have := ih m (nextR left s r) h1 (by unfold nextR; omega) (by unfold nextR; omega)
      simp only [runF, trF, hd, Bool.false_eq_true, if_false, this.1, this.2, and_self]
variable {left s}
theorem next_inv {r : Rd} (h : InvR r) (hd : r.dn = false) : InvR (nextR left s r) ∧ muR (nextR left s r) + 1 ≤ muR r := give_inv h hd _
theorem endOf_dn {r : Rd} (hd : r.dn = true) : endOf left s r = r := runF_dn left s hd
theorem trL_dn {r : Rd} (hd : r.dn = true) : trL left s r = [] := trF_dn left s hd
theorem endOf_next {r : Rd} (h : InvR r) (hd : r.dn = false) : endOf left s r = endOf left s (nextR left s r) := by
  obtain ⟨h1, h2⟩ := next_inv (left := left) (s := s) h hd
  have hp := mu_pos h hd
  unfold endOf
  obtain ⟨n, hn⟩ : ∃ n, muR r = n + 1 := ⟨muR r - 1, by omega⟩
  rw [hn]
  simp only [runF, hd, Bool.false_eq_true, if_false]
  exact (fuel left s n _ _ h1 (by omega) (Nat.le_refl _)).1
theorem trL_next {r : Rd} (h : InvR r) (hd : r.dn = false) : trL left s r = (wantR r, atW left s (wantR r)) :: trL left s (nextR left s r) := by
  obtain ⟨h1, h2⟩ := next_inv (left := left) (s := s) h hd
  have hp := mu_pos h hd
  unfold trL
  obtain ⟨n, hn⟩ : ∃ n, muR r = n + 1 := ⟨muR r - 1, by omega⟩
  rw [hn]
  simp only [trF, hd, Bool.false_eq_true, if_false]
  rw [(fuel left s n _ _ h1 (by omega) (Nat.le_refl _)).2]
theorem end_done : ∀ (n : Nat) (r : Rd), InvR r → muR r ≤ n → (endOf left s r).dn = true ∧ InvR (endOf left s r) ∧ (endOf left s r).loads = r.loads + (trL left s r).length := by
  intro n
  induction n with
  | zero =>
    intro r h hn
    cases hd : r.dn with
    | true => rw [endOf_dn hd, trL_dn hd]; exact ⟨hd, h, rfl⟩
    | false => have := mu_pos h hd; omega
  | succ n ih =>
    intro r h hn
    cases hd : r.dn with
    | true => rw [endOf_dn hd, trL_dn hd]; exact ⟨hd, h, rfl⟩
    | false =>
      obtain ⟨h1, h2⟩ := next_inv (left := left) (s := s) h hd
      rw [endOf_next h hd, trL_next h hd]
      obtain ⟨e1, e2, e3⟩ := ih (nextR left s r) h1 (by omega)
      refine ⟨e1, e2, ?_⟩
      rw [e3, List.length_cons, show (nextR left s r).loads = r.loads + 1 from (give_key r _).2.2]
      omega
/-- A reader at its beginning. -/
def newR (up : Bool) (slots key : Nat) : Rd := if up then ⟨key, slots, 0, 0, 0, 0, 0, false, false, 0⟩ else ⟨key, slots, slots - 1, 0, 0, 0, 0, false, false, 5⟩
theorem new_inv {up : Bool} {slots key : Nat} (h2 : 2 ≤ slots) (h28 : slots ≤ 28) : InvR (newR up slots key) ∧ muR (newR up slots key) = 4 * slots := by
  cases up
  · refine ⟨⟨by simp [newR], ?_, by simpa [newR] using h28, ?_, fun _ => ⟨rfl, rfl⟩⟩, ?_⟩ <;> simp [newR, muR] <;> omega
  · refine ⟨⟨by simp [newR], ?_, by simpa [newR] using h28, ?_, fun _ => ⟨rfl, rfl⟩⟩, ?_⟩ <;> simp [newR, muR] <;> omega
theorem trL_len {up : Bool} {slots key : Nat} (h2 : 2 ≤ slots) (h28 : slots ≤ 28) : (trL left s (newR up slots key)).length ≤ 112 := by
  obtain ⟨h, _⟩ := new_inv (up := up) (key := key) h2 h28
  obtain ⟨e1, e2, e3⟩ := end_done (left := left) (s := s) _ _ h (Nat.le_refl _)
  have := e2.loads
  have e4 : (endOf left s (newR up slots key)).slots ≤ 28 := e2.slots
  omega
end
end Go.Proofs.Ytloflmkolnediaa

/- Ranges over functions whose iterator writes one block that was there (GivesO, CC.rangeO): SeqZ with an own block g0, of which is told how it reads when all was given. -/
namespace Go.Proofs.Ytloflmkolnediaa
set_option linter.unusedVariables false
set_option linter.unusedSimpArgs false
open Go.RowKit Go.Shelf
/-- What an iterator's own steps may turn: no more than what it laid, and g0. -/
structure TurnsO (B g0 : Nat) (m : Nat → Prop) (W W' : World) : Prop where
  os : W'.os = W.os
  tape : W'.tape = W.tape
  output : W'.output = W.output
  size : W.heap.size ≤ W'.heap.size
  same : ∀ (k : Nat) (o : Obj), W.heap[k]? = some o → ((k < B ∧ k ≠ g0) ∨ (¬ m k ∧ k ≠ g0 ∧ o.isCells = true)) → W'.heap[k]? = some o
def AbidesO {β : Type} (B g0 : Nat) (J : (Nat → Prop) → β → World → Prop) : Prop := ∀ m m' s W W', J m s W → TurnsO B g0 m W W' → (∀ k, m' k → m k ∨ W.heap.size ≤ k) → J m' s W'
section small
variable {B B' n g0 : Nat} {m : Nat → Prop} {W W' X Y : World}
theorem TurnsO.refl (B g0 : Nat) (m : Nat → Prop) (W : World) : TurnsO B g0 m W W := ⟨rfl, rfl, rfl, Nat.le_refl _, fun _ _ h _ => h⟩
theorem TurnsO.trans (h : TurnsO B g0 m X W) (k : TurnsO B g0 m W Y) : TurnsO B g0 m X Y :=
  ⟨k.os.trans h.os, k.tape.trans h.tape, k.output.trans h.output, Nat.le_trans h.size k.size, fun i o ho hc => k.same i o (h.same i o ho hc) hc⟩
theorem TurnsO.mono (h : TurnsO B' g0 m X W) (hb : B ≤ B') : TurnsO B g0 m X W := ⟨h.os, h.tape, h.output, h.size, fun k o hk hc => h.same k o hk (hc.imp (fun h => ⟨by omega, h.2⟩) id)⟩
theorem TurnsO.of_below (h : Below W.heap.size W W') : TurnsO B g0 m W W' :=
  ⟨h.os, h.tape, h.output, h.size, fun k _ hk _ => (h.block k (Array.getElem?_eq_some_iff.1 hk).1).trans hk⟩
theorem TurnsO.putObj (h : TurnsO B g0 m X W) {l : Nat} {o : Obj} (o' : Obj) (hb : B ≤ l) (hl : W.heap[l]? = some o) (ho : o.isCells = false) : TurnsO B g0 m X (W.putObj l o') :=
  h.trans ⟨rfl, rfl, rfl, by simp, fun k x hk hc => by
    refine (World.putObj_heap_other (fun e => ?_)).trans hk
    subst e; rw [hl] at hk; cases hk; rcases hc with hc | ⟨_, _, hc⟩
    · omega
    · rw [ho] at hc; cases hc⟩
/-- A write into the own block. -/
theorem TurnsO.of_grown (h : W.grownBy W' (some g0)) : TurnsO B g0 m W W' :=
  ⟨h.os, h.tape, h.output, h.size, fun k o hk hc => (h.block k (Array.getElem?_eq_some_iff.1 hk).1 (by rcases hc with hc | hc; exact fun e => hc.2 (by cases e; rfl); exact fun e => hc.2.1 (by cases e; rfl))).trans hk⟩
theorem TurnsO.of_kept (h : Kept (fun j => j < W.heap.size ∧ j ≠ g0) W W') : TurnsO B g0 m W W' :=
  ⟨h.os, h.tape, h.output, h.size, fun k o hk hc => (h.block k ⟨(Array.getElem?_eq_some_iff.1 hk).1, by rcases hc with hc | hc; exact hc.2; exact hc.2.1⟩).trans hk⟩
theorem TurnsO.row {g e : Nat} {xs : List Value} (h : TurnsO B g0 m W W') (hr : RowL W g e xs) (hb : (g < B ∧ g ≠ g0) ∨ (¬ m g ∧ g ≠ g0)) : RowL W' g e xs := h.same g _ hr (hb.imp_right fun h => ⟨h.1, h.2, rfl⟩)
theorem TurnsO.below (h : TurnsO B g0 m W W') (hn : n ≤ B) (hg : n ≤ g0) (hs : n ≤ W.heap.size) : Below n W W' := ⟨h.os, h.tape, h.output, h.size, fun k hk => by
  have hlt : k < W.heap.size := by omega
  have ho := Array.getElem?_eq_getElem hlt
  exact (h.same k _ ho (.inl (by omega))).trans ho.symm⟩
theorem AbidesO.putObj {β : Type} {I : (Nat → Prop) → β → World → Prop} (h : AbidesO B g0 I) {s : β} {l : Nat} {o : Obj} (o' : Obj) (hs : I m s W) (hb : B ≤ l) (hl : W.heap[l]? = some o) (ho : o.isCells = false) : I m s (W.putObj l o') :=
  h m m s W _ hs ((TurnsO.refl _ _ _ _).putObj o' hb hl ho) (fun _ hk => .inl hk)
theorem AbidesO.toZ {β : Type} {I : (Nat → Prop) → β → World → Prop} (h : AbidesO B g0 I) (hg : g0 < B) : AbidesZ B I := fun m m' s W W' hi ht hm =>
  h m m' s W W' hi ⟨ht.os, ht.tape, ht.output, ht.size, fun k o hk hc => ht.same k o hk (hc.imp (fun h => h.1) (fun h => ⟨h.1, h.2.2⟩))⟩ hm
theorem row_put {g e l : Nat} {xs : List Value} {o : Obj} (h : RowL W g e xs) (hne : g ≠ l) : RowL (W.putObj l o) g e xs := (World.putObj_heap_other (fun e => hne (by omega))).trans h
end small
/-- WHAT AN ITERATOR'S VALUE GIVES: one of the lists of S, or a beginning of one, where a round has said 'no more'. -/
def GivesO {α : Type} (P : Program) (g : Nat) (lb : Array Value) (encs : α → Array Value) (D : Nat → Prop) (S : List α → Prop) (g0 t0 : Nat) (fr : List α → List Value) (w : World) : Prop :=
  ∀ (l : Nat) (J Jx : (Nat → Prop) → List α → World → Prop) (W : World), Below w.heap.size w W → (AbidesO W.heap.size g0 J) → (AbidesO W.heap.size g0 Jx) →
    (∀ m pre x W1, (∀ k, m k → W.heap.size ≤ k ∧ k < W1.heap.size) → J m pre W1 → Part S (pre ++ [x]) → YieldAt Fence.wide 3 P l (encs x) W1 fun e W' =>
      StaysZ W.heap.size m W1 W' ∧ ((e = .returned (.bool true) ∧ J m (pre ++ [x]) W' ∧ Keeps D W1 W') ∨ (e = .returned (.bool false) ∧ Jx m (pre ++ [x]) W'))) →
    (J (fun _ => False) [] W) →
    Calls P g (#[.func (.yield l) #[] #[]] ++ lb) W fun e W' => (∃ v, e = .returned v) ∧ ((∃ m xs, S xs ∧ J m xs W' ∧ RowL W' g0 t0 (fr xs)) ∨ (∃ m pre, Part S pre ∧ Jx m pre W'))

theorem GivesO.later {α : Type} {g0 t0 : Nat} {fr : List α → List Value} {P : Program} {g : Nat} {lb : Array Value} {encs : α → Array Value} {D : Nat → Prop} {S : List α → Prop} {w w' : World}
    (h : GivesO P g lb encs D S g0 t0 fr w) (hb : Below w.heap.size w w') : GivesO P g lb encs D S g0 t0 fr w' :=
  fun l J Jx W hW hJ hJx hY h0 => h l J Jx W (hb.trans (hW.mono hb.size)) hJ hJx hY h0

section core
variable {α : Type} {P : Program} {g0 t0 : Nat} {fr : List α → List Value}

theorem coreO {l B d gf : Nat} {D : Nat → Prop} {fn : FuncId} {tm : Array Value} {ps : Array Tmp} {assign body : Code} {lb : Array Value} {encs : α → Array Value} {S : List α → Prop} {w0 W1 : World}
    (hseq : GivesO P gf lb encs D S g0 t0 fr w0) (hb : Below w0.heap.size w0 W1)
    (hl : W1.heap[l]? = some (.loop { state := .ready, pending := none, fn, tmps := tm, params := ps, assign, body, defers := d }))
    (hg0 : g0 < l) (hBl : B ≤ l) (hn : ∀ k, D k → k < l) (hps : ∀ x, (encs x).size = ps.size)
    (I : (Nat → Prop) → List α → World → Prop) (Ix : Code → (Nat → Prop) → List α → World → Prop) (hI : AbidesO B g0 I) (hIx : ∀ c, AbidesO B g0 (Ix c)) (h0 : I (fun _ => False) [] W1)
    (Ax : α → Act → World → Prop) (hAx : ∀ x a', OwnFrom B (fun (_ : Unit) W => Ax x a' W))
    (hassign : ∀ m pre x W (K : Act → World → Prop), (∀ k, m k → W1.heap.size ≤ k ∧ k < W.heap.size) → I m pre W → (∀ a' W', StaysZ B m W W' → Keeps D W W' → I m pre W' → Ax x a' W' → K a' W') →
      assign.wpIn (Fence.wide.inRound l) 3 P (Exit.then K (fun _ _ _ => False)) { tmps := (ps.zip (encs x)).foldl (fun t (p, v) => t.setIfInBounds p v) tm, defers := [] } W)
    (hbody : ∀ m pre x a' W, (∀ k, m k → W1.heap.size ≤ k ∧ k < W.heap.size) → (∃ r, W.heap[l]? = some (.loop r)) → I m pre W → Ax x a' W → Part S (pre ++ [x]) →
      body.wpIn (Fence.wide.inRound l) 3 P (roundPZ B m D I Ix (pre ++ [x]) W) a' W) :
    Calls P gf (#[.func (.yield l) #[] #[]] ++ lb) W1 (fun e W2 => (∃ v, e = .returned v) ∧ ∃ jump W3, (Instr.endLoop l).run P W2 = .ok jump W3 ∧
      ((jump = none ∧ ∃ m xs, S xs ∧ I m xs W3 ∧ RowL W3 g0 t0 (fr xs)) ∨ (∃ c m pre, jump = some c ∧ Part S pre ∧ Ix c m pre W3))) := by
  have hlt1 : l < W1.heap.size := (Array.getElem?_eq_some_iff.1 hl).1
  obtain ⟨rec, hrec⟩ : ∃ rec : LoopState → Option Code → Loop, rec = fun st pe => { state := st, pending := pe, fn, tmps := tm, params := ps, assign, body, defers := d } := ⟨_, rfl⟩
  have hl1 : W1.heap[l]? = some (.loop (rec .ready none)) := by rw [hrec]; exact hl
  refine (hseq l (fun m pre W => I m pre W ∧ W.heap[l]? = some (.loop (rec .ready none)))
    (fun m pre W => ∃ c, Ix c m pre W ∧ W.heap[l]? = some (.loop (rec .done (some c)))) W1 hb
    (fun m m' s X Y hs ht hg => ⟨hI m m' s X Y hs.1 (ht.mono (by omega)) hg, ht.same l _ hs.2 (.inl ⟨hlt1, by omega⟩)⟩)
    (fun m m' s X Y hs ht hg => by obtain ⟨c, hc, hx⟩ := hs; exact ⟨c, hIx c m m' s X Y hc (ht.mono (by omega)) hg, ht.same l _ hx (.inl ⟨hlt1, by omega⟩)⟩)
    ?_ ⟨h0, hl1⟩).mono ?_
  · rintro m pre x W hm ⟨hi, hlw⟩ hpart
    have hy := run_yield (P := P) (args := encs x) hlw (by rw [hrec]; exact hps x)
    rw [hrec] at hy
    refine ⟨fn, _, assign, body, hy, roundIn_of_wpIn trivial (hassign m pre x W _ hm hi ?_)⟩
    intro a' Wa hst hbe hia hax
    have hla := hst.record hBl hlw
    have hlta : l < Wa.heap.size := (Array.getElem?_eq_some_iff.1 hla).1
    obtain ⟨Wb, hWb⟩ : ∃ Wb, Wa.putObj l (.loop { rec .ready none with state := .busy }) = Wb := ⟨_, rfl⟩
    refine ⟨Wb, by rw [← hWb]; exact run_beginRound hla (by rw [hrec]), ?_⟩
    have hlb : Wb.heap[l]? = some (.loop { rec .ready none with state := .busy }) := by rw [← hWb]; exact World.putObj_heap_same hlta
    have hib : I m pre Wb := by rw [← hWb]; exact hI.putObj _ hia hBl hla rfl
    have haxb : Ax x a' Wb := by rw [← hWb]; exact (hAx x a').putObj (s := ()) _ hax hBl hla rfl
    have hsb : StaysZ W1.heap.size m W Wb := by rw [← hWb]; exact (hst.mono (by omega)).trans (.turn hlt1)
    have hDl : ¬ D l := fun h => Nat.lt_irrefl _ (hn l h)
    have hbb : Keeps D W Wb := by rw [← hWb]; exact hbe.putObj hDl _
    refine wpIn_mono (hbody m pre x a' Wb (fun k hk => ⟨(hm k hk).1, Nat.lt_of_lt_of_le (hm k hk).2 hsb.size⟩) ⟨_, hlb⟩ hib haxb hpart) ?_
    have fin : ∀ (jump : Option Code) (W3 : World), StaysZ B m Wb W3 → ∃ W4, W4 = W3.putObj l (.loop (rec (if jump.isNone then .ready else .done) jump)) ∧
        (Instr.endRound l jump).run P W3 = .ok (.bool jump.isNone) W4 ∧ W4.heap[l]? = some (.loop (rec (if jump.isNone then .ready else .done) jump)) ∧
        W3.heap[l]? = some (.loop { rec .ready none with state := .busy }) ∧ StaysZ W1.heap.size m W W4 := fun jump W3 hs3 => by
      have hl3 := hs3.record hBl hlb
      have hr := run_endRound (P := P) jump hl3
      rw [hrec] at hr ⊢
      refine ⟨_, rfl, hr, World.putObj_heap_same (Array.getElem?_eq_some_iff.1 hl3).1, by rw [hrec] at hl3; exact hl3, ?_⟩
      exact (hsb.trans (hs3.mono (by omega))).trans (.turn hlt1)
    rintro e a3 W3 hp
    cases e with
    | normal =>
      obtain ⟨hs3, hb3, hi3⟩ := hp
      obtain ⟨W4, e4, hr, hl4, hl3, hs4⟩ := fin none W3 hs3
      refine ⟨_, W4, hr, hs4, .inl ⟨rfl, ⟨?_, hl4⟩, ?_⟩⟩
      · rw [e4]; exact hI.putObj _ hi3 hBl hl3 rfl
      · rw [e4]; exact (hbb.trans hb3).putObj hDl _
    | ret =>
      obtain ⟨hs3, hi3⟩ := hp
      obtain ⟨W4, e4, hr, hl4, hl3, hs4⟩ := fin (some .ret) W3 hs3
      exact ⟨_, W4, hr, hs4, .inr ⟨rfl, .ret, by rw [e4]; exact (hIx _).putObj _ hi3 hBl hl3 rfl, hl4⟩⟩
    | exit id =>
      obtain ⟨hs3, hi3⟩ := hp
      obtain ⟨W4, e4, hr, hl4, hl3, hs4⟩ := fin (some (.exit id)) W3 hs3
      exact ⟨_, W4, hr, hs4, .inr ⟨rfl, .exit id, by rw [e4]; exact (hIx _).putObj _ hi3 hBl hl3 rfl, hl4⟩⟩
    | goto t =>
      obtain ⟨hs3, hi3⟩ := hp
      obtain ⟨W4, e4, hr, hl4, hl3, hs4⟩ := fin (some (.goto t)) W3 hs3
      exact ⟨_, W4, hr, hs4, .inr ⟨rfl, .goto t, by rw [e4]; exact (hIx _).putObj _ hi3 hBl hl3 rfl, hl4⟩⟩
    | panic ch => exact hp.elim
    | outgrown => exact hp.elim
  · rintro e W2 ⟨hv, (⟨m, xs, hS, ⟨hi, hlw⟩, hro⟩ | ⟨m, pre, hp, c, hi, hlw⟩)⟩
    · have hr := run_endLoop (P := P) hlw (by rw [hrec]; simp)
      refine ⟨hv, _, _, hr, .inl ⟨by rw [hrec], m, xs, hS, hI.putObj _ hi hBl hlw rfl, row_put hro (by omega)⟩⟩
    · have hr := run_endLoop (P := P) hlw (by rw [hrec]; simp)
      refine ⟨hv, _, _, hr, .inr ⟨c, m, pre, by rw [hrec], hp, (hIx c).putObj _ hi hBl hlw rfl⟩⟩

/-- THE STATEMENT, OUTERMOST. D is the block of the rounds' deferred calls: at the function's return it is taken once more. -/
theorem rangeO_out {gf : Nat} {D : Nat → Prop} {g : Operand} {ps : Array Tmp} {assign body : Code} {Q : Exit → Act → World → Prop} {a : Act} {w w0 : World} {lb : Array Value} {encs : α → Array Value} {S : List α → Prop}
    (hg : a.eval g = .func (.func gf) #[] lb) (eg : ∀ args w, (callFunc gf args).run P w = .ok (.enter gf args) w)
    (hseq : GivesO P gf lb encs D S g0 t0 fr w0) (hb : Below w0.heap.size w0 w) (hg0 : g0 < w.heap.size) (hn : ∀ k, D k → k < w.heap.size) (hps : ∀ x, (encs x).size = ps.size)
    (I : (Nat → Prop) → List α → World → Prop) (Ix : Code → (Nat → Prop) → List α → World → Prop) (hI : AbidesO w.heap.size g0 I) (hIx : ∀ c, AbidesO w.heap.size g0 (Ix c)) (h0 : I (fun _ => False) [] w)
    (Ax : α → Act → World → Prop) (hAx : ∀ x a', OwnFrom w.heap.size (fun (_ : Unit) W => Ax x a' W))
    (hassign : ∀ (l : Nat) (m : Nat → Prop) pre x W (K : Act → World → Prop), (∀ k, m k → w.heap.size ≤ k ∧ k < W.heap.size) → I m pre W → (∀ a' W', StaysZ w.heap.size m W W' → Keeps D W W' → I m pre W' → Ax x a' W' → K a' W') →
      assign.wpIn (Fence.wide.inRound l) 3 P (Exit.then K (fun _ _ _ => False)) { tmps := (ps.zip (encs x)).foldl (fun t (p, v) => t.setIfInBounds p v) a.tmps, defers := [] } W)
    (hbody : ∀ (l : Nat) (m : Nat → Prop) pre x a' W, (∀ k, m k → w.heap.size ≤ k ∧ k < W.heap.size) → w.heap.size ≤ l → (∃ r, W.heap[l]? = some (.loop r)) → I m pre W → Ax x a' W → Part S (pre ++ [x]) →
      body.wpIn (Fence.wide.inRound l) 3 P (roundPZ w.heap.size m D I Ix (pre ++ [x]) W) a' W)
    (hdone : ∀ (E : Nat) (m : Nat → Prop) xs W, w.heap.size ≤ E → S xs → I m xs W → RowL W g0 t0 (fr xs) → W.heap[E]? = some (.deferred (some [])) → Q .normal { a with defers := { target := .collected E, args := #[] } :: a.defers } W)
    (hstop : ∀ (E : Nat) (c : Code) (m : Nat → Prop) pre W, w.heap.size ≤ E → Part S pre → Ix c m pre W → W.heap[E]? = some (.deferred (some [])) →
      c.wpIn Fence.wide 3 P Q { a with defers := { target := .collected E, args := #[] } :: a.defers } W) :
    (Code.rangeFunc g ps assign body).wpIn Fence.wide 3 P Q a w := by
  refine wpIn_rangeFunc ?_
  intro fn hfn
  obtain ⟨W1, hW1⟩ : ∃ W1, (w.alloc (.deferred (some []))).alloc (.loop { state := .ready, pending := none, fn, tmps := a.tmps, params := ps, assign, body, defers := w.heap.size }) = W1 := ⟨_, rfl⟩
  have hL1 : W1.heap[w.heap.size + 1]? = some (.loop { state := .ready, pending := none, fn, tmps := a.tmps, params := ps, assign, body, defers := w.heap.size }) := by
    rw [← hW1]; have := World.alloc_heap_new (w.alloc (.deferred (some []))) (.loop { state := .ready, pending := none, fn, tmps := a.tmps, params := ps, assign, body, defers := w.heap.size }); rwa [World.size_alloc] at this
  have hK1 : W1.heap[w.heap.size]? = some (.deferred (some [])) := by
    rw [← hW1]; exact (Below.heap_alloc _ _ _ (by simp)).trans (World.alloc_heap_new w _)
  have hbw : Below w.heap.size w W1 := by rw [← hW1]; exact ((Below.refl _ w).alloc (Nat.le_refl _) _).alloc (by simp) _
  refine ⟨w.heap.size + 1, [{ target := .collected w.heap.size, args := #[] }], W1, { target := .fn (.func gf) lb, args := #[.func (.yield (w.heap.size + 1)) #[] #[]] }, W1, gf,
    #[.func (.yield (w.heap.size + 1)) #[] #[]] ++ lb, W1, ?_, ?_, fun _ _ => trivial, ?_, fun h => (by simp [Fence.wide] at h), ?_⟩
  · rw [← hW1]; exact run_enterLoop_outer _ _ _ _ _
  · simp only [resolve, hg]
    simp [go_sem]
  · simp [invoke, go_sem, eg]
  · refine callsIn_wide.2 ((coreO (B := w.heap.size + 1) hseq (hb.trans (hbw.mono hb.size)) hL1 (by omega) (Nat.le_refl _) (fun k hk => Nat.lt_succ_of_lt (hn k hk)) hps
      (fun m pre W => I m pre W ∧ W.heap[w.heap.size]? = some (.deferred (some []))) (fun c m pre W => Ix c m pre W ∧ W.heap[w.heap.size]? = some (.deferred (some [])))
      (fun m m' s X Y hs ht hg => ⟨hI m m' s X Y hs.1 (ht.mono (by omega)) hg, ht.same _ _ hs.2 (.inl (by omega))⟩)
      (fun c m m' s X Y hs ht hg => ⟨hIx c m m' s X Y hs.1 (ht.mono (by omega)) hg, ht.same _ _ hs.2 (.inl (by omega))⟩)
      ⟨hI _ _ _ _ _ h0 (.of_below hbw) (fun k hk => hk.elim), hK1⟩ Ax (fun x a' s X Y row hs hg' hr => hAx x a' s X Y row hs hg' (fun r e => ⟨by have := (hr r e).1; omega, (hr r e).2⟩))
      (fun m pre x W K hm hi hK => hassign _ m pre x W K (fun k hk => ⟨Nat.le_trans hbw.size (hm k hk).1, (hm k hk).2⟩) hi.1 (fun a' W' hs hbe hi' hax => hK a' W' (hs.mono (by omega)) hbe ⟨hi', hs.same _ _ (Nat.le_refl _) hi.2 (.inr rfl)⟩ hax))
      (fun m pre x a' W hm hr hi hax hp => wpIn_mono (hbody _ m pre x a' W (fun k hk => ⟨Nat.le_trans hbw.size (hm k hk).1, (hm k hk).2⟩) (by omega) hr hi.1 hax hp) ?_)).mono ?_)
    · intro e a3 W3 h3
      have hD : ∀ {W' : World}, StaysZ w.heap.size m W W' → W'.heap[w.heap.size]? = some (.deferred (some [])) := fun hs => hs.same _ _ (Nat.le_refl _) hi.2 (.inr rfl)
      cases e with
      | normal => exact ⟨h3.1.mono (by omega), h3.2.1, h3.2.2, hD h3.1⟩
      | ret => exact ⟨h3.1.mono (by omega), h3.2, hD h3.1⟩
      | exit id => exact ⟨h3.1.mono (by omega), h3.2, hD h3.1⟩
      | goto t => exact ⟨h3.1.mono (by omega), h3.2, hD h3.1⟩
      | panic ch => exact h3
      | outgrown => exact h3
    · rintro e W2 ⟨⟨v, rfl⟩, jump, W3, hr, (⟨rfl, m, xs, hS, ⟨hi, hD⟩, hro⟩ | ⟨c, m, pre, rfl, hp, hi, hD⟩)⟩
      · exact ⟨none, W3, hr, hdone _ m xs W3 (Nat.le_refl _) hS hi hro hD⟩
      · exact ⟨some c, W3, hr, hstop _ c m pre W3 (Nat.le_refl _) hp hi hD⟩

/-- THE STATEMENT, OUTERMOST, WHERE A ROUND LEAVES BY 'break' AT MOST. -/
theorem rangeO_break {id gf : Nat} {D : Nat → Prop} {g : Operand} {ps : Array Tmp} {assign body : Code} {Q : Exit → Act → World → Prop} {a : Act} {w w0 : World} {lb : Array Value} {encs : α → Array Value} {S : List α → Prop}
    (hg : a.eval g = .func (.func gf) #[] lb) (eg : ∀ args w, (callFunc gf args).run P w = .ok (.enter gf args) w)
    (hseq : GivesO P gf lb encs D S g0 t0 fr w0) (hb : Below w0.heap.size w0 w) (hg0 : g0 < w.heap.size) (hn : ∀ k, D k → k < w.heap.size) (hps : ∀ x, (encs x).size = ps.size)
    (I Ix : (Nat → Prop) → List α → World → Prop) (A : World → Prop) (hI : AbidesO w.heap.size g0 I) (hIx : AbidesO w.heap.size g0 Ix) (h0 : I (fun _ => False) [] w)
    (Ax : α → Act → World → Prop) (hAx : ∀ x a', OwnFrom w.heap.size (fun (_ : Unit) W => Ax x a' W))
    (hIA : ∀ m xs W, S xs → I m xs W → RowL W g0 t0 (fr xs) → A W) (hIxA : ∀ m pre W, Part S pre → Ix m pre W → A W)
    (hassign : ∀ (l : Nat) (m : Nat → Prop) pre x W (K : Act → World → Prop), (∀ k, m k → w.heap.size ≤ k ∧ k < W.heap.size) → I m pre W → (∀ a' W', StaysZ w.heap.size m W W' → Keeps D W W' → I m pre W' → Ax x a' W' → K a' W') →
      assign.wpIn (Fence.wide.inRound l) 3 P (Exit.then K (fun _ _ _ => False)) { tmps := (ps.zip (encs x)).foldl (fun t (p, v) => t.setIfInBounds p v) a.tmps, defers := [] } W)
    (hbody : ∀ (l : Nat) (m : Nat → Prop) pre x a' W, (∀ k, m k → w.heap.size ≤ k ∧ k < W.heap.size) → w.heap.size ≤ l → (∃ r, W.heap[l]? = some (.loop r)) → I m pre W → Ax x a' W → Part S (pre ++ [x]) →
      body.wpIn (Fence.wide.inRound l) 3 P (roundPZ w.heap.size m D I (fun c m pre W => c = .exit id ∧ Ix m pre W) (pre ++ [x]) W) a' W)
    (hafter : ∀ (E : Nat) W, w.heap.size ≤ E → A W → W.heap[E]? = some (.deferred (some [])) → Q .normal { a with defers := { target := .collected E, args := #[] } :: a.defers } W) :
    (Code.rangeFunc g ps assign body).wpIn Fence.wide 3 P (Exit.inBlock id Q) a w :=
  rangeO_out hg eg hseq hb hg0 hn hps I (fun c m pre W => c = .exit id ∧ Ix m pre W) hI (fun c m m' s W W' hs ht hg => ⟨hs.1, hIx m m' s W W' hs.2 ht hg⟩) h0 Ax hAx hassign hbody
    (fun E m xs W hE hS hi hro hK => hafter E W hE (hIA m xs W hS hi hro) hK)
    (fun E c m pre W hE hp hi hK => by
      obtain ⟨rfl, hi⟩ := hi
      refine wpIn_exit ?_
      have := hafter E W hE (hIxA m pre W hp hi) hK
      simpa [Exit.inBlock] using this)

end core


section
variable {α γ : Type} {P : Program} {g0 t0 : Nat} {fr : List α → List Value} {n : Nat} {D : List Deferred} {M : Slots}
/-- A range over a function, outermost, of which a round may break at most. -/
theorem CC.rangeO {id gf : Nat} {Dk : Nat → Prop} {g : Operand} {ps : Array Tmp} {assign body : Code} {Q : Exit → Act → World → Prop} {w w0 : World} {lb : List Value} {encs : α → List Value} {S : List α → Prop}
    (hg : evM M g = some (.func (.func gf) #[] lb.toArray)) (eg : entB P gf = true) (hseq : GivesO P gf lb.toArray (fun x => (encs x).toArray) Dk S g0 t0 fr w0) (hb : Below w0.heap.size w0 w) (hg0 : g0 < w.heap.size) (hn : ∀ k, Dk k → k < w.heap.size) (hps : ∀ x, (encs x).length = ps.size) (hpn : (ps.toList.all fun p => Nat.blt p n) = true)
    (I Ix : (Nat → Prop) → List α → World → Prop) (A : World → Prop) (hI : AbidesO w.heap.size g0 I) (hIx : AbidesO w.heap.size g0 Ix) (h0 : I (fun _ => False) [] w) (hIA : ∀ m xs W, S xs → I m xs W → RowL W g0 t0 (fr xs) → A W) (hIxA : ∀ m pre W, Part S pre → Ix m pre W → A W)
    (Mx : α → γ → Slots) (Ax : α → γ → World → Prop) (hAx : ∀ x c, OwnFrom w.heap.size (fun (_ : Unit) W => Ax x c W))
    (hassign : ∀ (l : Nat) (m : Nat → Prop) pre x W (K : Act → World → Prop), (∀ k, m k → w.heap.size ≤ k ∧ k < W.heap.size) → I m pre W → (∀ a' W' c, StaysZ w.heap.size m W W' → Keeps Dk W W' → I m pre W' → Fr n [] (Mx x c) a' → Ax x c W' → K a' W') → CC (some l) P (Exit.then K (fun _ _ _ => False)) n [] (psM M ps.toList (encs x)) assign W)
    (hbody : ∀ (l : Nat) (m : Nat → Prop) pre x c W, (∀ k, m k → w.heap.size ≤ k ∧ k < W.heap.size) → w.heap.size ≤ l → (∃ r, W.heap[l]? = some (.loop r)) → I m pre W → Ax x c W → Part S (pre ++ [x]) → CC (some l) P (roundPZ w.heap.size m Dk I (fun c m pre W => c = .exit id ∧ Ix m pre W) (pre ++ [x]) W) n [] (Mx x c) body W)
    (hafter : ∀ (E : Nat) W, w.heap.size ≤ E → A W → W.heap[E]? = some (.deferred (some [])) → EE Q n (mark E :: D) M .normal W) :
    CC none P (Exit.inBlock id Q) n D M (.rangeFunc g ps assign body) w := CC.mk fun a F => by
  refine rangeO_break (gf := gf) (lb := lb.toArray) (F.ev hg) (ent_of eg) hseq hb hg0 hn (fun x => by simpa using hps x) I Ix A hI hIx h0 (fun x a' W => ∃ c, Fr n [] (Mx x c) a' ∧ Ax x c W) (fun x a' _ W W' row hs hg hr => by
    obtain ⟨c, hF, hc⟩ := hs
    exact ⟨c, hF, hAx x c () W W' row hc hg hr⟩) hIA hIxA ?_ ?_ ?_
  · intro l m pre x W K hm hi hK
    refine (hassign l m pre x W K hm hi fun a' W' c h1 h2 h3 h4 h5 => hK a' W' h1 h2 h3 ⟨c, h4, h5⟩).h _ ?_
    have F0 : Fr n [] M ⟨a.tmps, []⟩ := ⟨F.size, rfl, F.get⟩
    have := psM_fr ps.toList (encs x) M a.tmps [] F0 hpn
    have e : (ps.zip (encs x).toArray).foldl (fun t (p, v) => t.setIfInBounds p v) a.tmps = (ps.toList.zip (encs x)).foldl (fun t (p, v) => t.setIfInBounds p v) a.tmps := by
      obtain ⟨l⟩ := ps
      rw [← Array.foldl_toList]
      simp
    rw [e]
    exact this
  · intro l m pre x a' W hm hl hr hi hax hp
    obtain ⟨c, hF, hc⟩ := hax
    exact (hbody l m pre x c W hm hl hr hi hc hp).h a' hF
  · intro E W hE hA hd
    exact (hafter E W hE hA hd).h _ ⟨F.size, by rw [F.defers]; rfl, F.get⟩
end
end Go.Proofs.Ytloflmkolnediaa

/- slots: a row's words. -/
namespace Go.Proofs.Ytloflmkolnediaa
set_option linter.unusedVariables false
set_option linter.unusedSimpArgs false
open Go.RowKit Go.Shelf
def uE (x : Nat) : List Value := [.int .u64 (x : Int)]

theorem uEnc : Enc uE 1 := ⟨fun _ => rfl, fun t u hu => by
  simp only [uE, List.mem_cons, List.not_mem_nil, or_false] at hu
  subst hu
  rfl, by decide⟩

theorem flat_u (ws : List Nat) : ws.flatMap uE = ints .u64 ws := by
  induction ws with
  | nil => rfl
  | cons x ws ih => rw [List.flatMap_cons, ih]; rfl

theorem Try.infoU : (Try.prog.info? 23).map (fun i => (i.zero, i.size, i.bytes)) = some (some (.int .u64 0), 1, 8) := by kernel_rfl

theorem info_parts_t {P : Program} {T e : TypeId} {z : Value} {k bytes : Nat} (hu : P.underlying T = some (.slice e)) (h : (P.info? e).map (fun i => (i.zero, i.size, i.bytes)) = some (some z, k, bytes)) (hz : z.cells.size = k) : ElT P T e z k bytes := by
  refine ⟨hu, ?_, hz⟩
  cases hi : P.info? e with
  | none => rw [hi] at h; cases h
  | some i =>
    rw [hi] at h
    simp only [Option.map_some, Option.some.injEq, Prod.mk.injEq] at h
    exact ⟨i, rfl, h.1, h.2.1, h.2.2⟩

theorem ElU : ElT Try.prog 24 23 (.int .u64 0) 1 8 := info_parts_t Try.underlying24 Try.infoU rfl

theorem ElU1 : El Try.prog 24 23 (.int .u64 0) 8 := ⟨Try.underlying24, info_parts Try.infoU, rfl⟩

abbrev rowV (v : Value) (left : Nat) : Value := .agg #[v, .int .u64 (left : Int)]
abbrev celV (v : Value) : Value := .agg #[v]
def ptrN (s : List Nat) (j : Nat) : Nat := (s[2 * j + 1]?).getD 0
def keyN (s : List Nat) (j : Nat) : Nat := (s[2 * j]?).getD 0
theorem ptrN_at {s : List Nat} {j : Nat} (h : 2 * j + 1 < s.length) : s[2 * j + 1]? = some (ptrN s j) := by
  unfold ptrN
  rw [List.getElem?_eq_getElem h]
  rfl
theorem keyN_at {s : List Nat} {j : Nat} (h : 2 * j < s.length) : s[2 * j]? = some (keyN s j) := by
  unfold keyN
  rw [List.getElem?_eq_getElem h]
  rfl
def aheadN (left : Nat) (s : List Nat) (j : Nat) : Nat := if j = 0 then left else ptrN s (j - 1)
/-- A word of a slice, wherever. -/
theorem u_at {w : World} {a : Option Addr} {n cap j x : Nat} {s : List Nat} (h : ReadsT uE 1 w (.slice a n cap) s) (hx : s[j]? = some x) : ∃ b o, a = some ⟨b, o, none⟩ ∧ b < w.heap.size ∧ ∀ W, Below w.heap.size w W → W.cell? ⟨b, o + j, none⟩ = some (.int .u64 (x : Int)) := by
  obtain ⟨b, o, e, lb, cs⟩ := h.one uEnc hx
  refine ⟨b, o, e, lb, fun W hb => ?_⟩
  exact (hb.cell (p := ⟨b, o + j, none⟩) lb).trans (cs _ rfl)
set_option maxRecDepth 100000
set_option maxHeartbeats 2000000
/-- No row. -/
def noRow (left n : Nat) : Prop := ¬ (left ≠ 0 ∧ n % 2 = 0 ∧ 4 ≤ n ∧ n ≤ 56)
/-- How many slots are gone over. -/
def overN (s : List Nat) : Nat := ((List.range (s.length / 2)).takeWhile fun j => decide (ptrN s j ≠ 0)).length
theorem tw_all {α : Type} {p : α → Bool} : ∀ {l : List α}, (∀ x ∈ l, p x = true) → l.takeWhile p = l
  | [], _ => rfl
  | x :: l, h => by
    rw [List.takeWhile_cons, h x (List.mem_cons_self ..)]
    simp only [if_true]
    rw [tw_all fun y hy => h y (List.mem_cons_of_mem _ hy)]
theorem tw_len {p : Nat → Bool} : ∀ (n m : Nat), m ≤ n → (∀ i, i < m → p i = true) → (m = n ∨ p m = false) → ((List.range n).takeWhile p).length = m := by
  intro n
  induction n with
  | zero => intro m h _ _; simp; omega
  | succ n ih =>
    intro m h1 h2 h3
    rw [List.range_succ]
    by_cases hm : m = n + 1
    · subst hm
      have : (List.range n).takeWhile p = List.range n := tw_all fun x hx => h2 x (by have := List.mem_range.1 hx; omega)
      rw [List.takeWhile_append, this, if_pos rfl]
      simp [h2 n (by omega)]
    · have hp : p m = false := h3.resolve_left hm
      have hl := ih m (by omega) h2 (by by_cases e : m = n; exact .inl e; exact .inr hp)
      rw [List.takeWhile_append]
      by_cases e : m = n
      · subst e
        rw [if_pos (by rw [hl, List.length_range]), List.takeWhile_cons, hp]
        simp
      · rw [if_neg (by rw [hl, List.length_range]; exact e)]
        exact hl
theorem over_eq {s : List Nat} {m : Nat} (h1 : m ≤ s.length / 2) (h2 : ∀ i, i < m → ptrN s i ≠ 0) (h3 : m = s.length / 2 ∨ ptrN s m = 0) : overN s = m :=
  tw_len _ _ h1 (fun i hi => by simpa using h2 i hi) (h3.imp_right fun h => by simpa using h)
theorem over_ex (s : List Nat) : ∃ m, m ≤ s.length / 2 ∧ (∀ i, i < m → ptrN s i ≠ 0) ∧ (m = s.length / 2 ∨ ptrN s m = 0) := by
  have key : ∀ n, ∃ m, m ≤ n ∧ (∀ i, i < m → ptrN s i ≠ 0) ∧ (m = n ∨ ptrN s m = 0) := by
    intro n
    induction n with
    | zero => exact ⟨0, Nat.le_refl _, fun i h => by omega, .inl rfl⟩
    | succ n ih =>
      obtain ⟨m, h1, h2, h3⟩ := ih
      rcases h3 with rfl | h3
      · by_cases hp : ptrN s m = 0
        · exact ⟨m, by omega, h2, .inr hp⟩
        · exact ⟨m + 1, by omega, fun i hi => by
            by_cases e : i = m
            · subst e; exact hp
            · exact h2 i (by omega), .inl rfl⟩
      · exact ⟨m, by omega, h2, .inr h3⟩
  exact key _
theorem over_le (s : List Nat) : overN s ≤ s.length / 2 := by
  obtain ⟨m, h1, h2, h3⟩ := over_ex s
  rw [over_eq h1 h2 h3]
  exact h1
theorem over_ne {s : List Nat} {i : Nat} (h : i < overN s) : ptrN s i ≠ 0 := by
  obtain ⟨m, h1, h2, h3⟩ := over_ex s
  rw [over_eq h1 h2 h3] at h
  exact h2 i h
theorem over_end (s : List Nat) : overN s = s.length / 2 ∨ ptrN s (overN s) = 0 := by
  obtain ⟨m, h1, h2, h3⟩ := over_ex s
  rw [over_eq h1 h2 h3]
  exact h3
end Go.Proofs.Ytloflmkolnediaa

/- A scope in which the run jumps ahead to a label. Over any program. -/
namespace Go.Proofs.Ytloflmkolnediaa
set_option linter.unusedVariables false
set_option linter.unusedSimpArgs false
open Go.RowKit Go.Shelf

section
variable {P : Program} {w : World} {n : Nat} {D : List Deferred} {M : Slots} {Q : Exit → Act → World → Prop}
theorem CC.fwd {α : Type} {l : Nat} {c rest : Code} (Dx : α → List Deferred) (L : α → List (Nat × Value)) (I : α → World → Prop) (hf : findLabel c l = some rest)
    (first : CC none P (Exit.jump l (fun a' w' => ∃ x, Fr n (Dx x) (sl (L x)) a' ∧ I x w') Q) n D M c w)
    (pass : ∀ x w, I x w → CC none P (Exit.jump l (fun _ _ => False) Q) n (Dx x) (sl (L x)) rest w) : CC none P Q n D M (.scope c) w := CC.mk fun a F => by
  refine (wpIn_wide (n := 3)).2 (wp_scope_jumps l (fun a' w' => ∃ x, Fr n (Dx x) (sl (L x)) a' ∧ I x w') (fun _ _ => 0) hf ((wpIn_wide (n := 3)).1 (first.h a F)) ?_)
  rintro a w ⟨x, hF, hI⟩
  refine (wpIn_wide (n := 3)).1 (Code.wpIn_mono ?_ ((pass x w hI).h a hF))
  intro e a' w' hq
  cases e <;> try exact hq
  exact hq.2.elim
theorem EE.jumpTo {α : Type} {l : Nat} {Dx : α → List Deferred} {L : α → List (Nat × Value)} {I : α → World → Prop} (x : α) (hD : D = Dx x) (hL : Fits M (L x)) (hI : I x w) : EE (Exit.jump l (fun a' w' => ∃ x, Fr n (Dx x) (sl (L x)) a' ∧ I x w') Q) n D M (.goto l) w := EE.mk fun _ F => ⟨rfl, x, by subst hD; exact F.keep _ hL, hI⟩
end
end Go.Proofs.Ytloflmkolnediaa
