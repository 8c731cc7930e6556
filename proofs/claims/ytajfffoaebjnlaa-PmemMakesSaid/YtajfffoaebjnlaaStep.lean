/- What single operations do, for the walk by explicit steps. Over any program. -/
import Derived.Test.YtajfffoaebjnlaaExec
import Derived.IntWalk
import Derived.WalkLawsBesides
namespace Go.Proofs.Ytajfffoaebjnlaa
set_option linter.unusedVariables false
set_option linter.unusedSimpArgs false
open Go.RowKit Go.Shelf

/-- A function's contract from its body's walk. -/
theorem X.fn {P : Program} {f : FuncId} {fn : Func} {c : Code} {args : Array Value} {w : World} {R : Ending → World → Prop} {n : Nat} (hf : P.funcs[f]? = some fn) (hb : fn.body = some c) (hn : fn.ntmps = n) (ha : Nat.ble args.size n = true)
    (h : CC none P (bodyPost P fn R) n [] (argM args) c w) : Calls P f args w R := by
  subst hn
  exact (callsIn_wide (n := 3)).1 (callsIn_of_wp hf hb trivial (h.h _ (Fr.start args _ (by simpa using ha))) rfl)
theorem EE.ret {P : Program} {fn : Func} {R : Ending → World → Prop} {n : Nat} {M : Slots} {w : World} (vs : List Value) (h : resM M fn.results.toList = some vs) (h3 : Nat.ble vs.length 3 = true) (hR : R (.returned (resV vs)) w) : EE (bodyPost P fn R) n [] M .ret w := EE.mk fun _ F => ⟨F.defers, _, results_run F h (by simpa using h3), hR⟩
theorem EE.end {P : Program} {fn : Func} {R : Ending → World → Prop} {n : Nat} {M : Slots} {w : World} (vs : List Value) (h : resM M fn.results.toList = some vs) (h3 : Nat.ble vs.length 3 = true) (hR : R (.returned (resV vs)) w) : EE (bodyPost P fn R) n [] M .normal w := EE.mk fun _ F => ⟨F.defers, _, results_run F h (by simpa using h3), hR⟩
/-- A result that lies in a variable's cells. -/
theorem EE.retC {P : Program} {fn : Func} {R : Ending → World → Prop} {n : Nat} {M : Slots} {w : World} {s : Tmp} {t : TypeId} {p : Addr} {v : Value} (h : fn.results = #[.cell s t]) (hs : M s = some (.pointer (some p))) (hv : (loadVar t p).run P w = .ok v w) (hR : R (.returned v) w) : EE (bodyPost P fn R) n [] M .ret w := EE.mk fun a F => ⟨F.defers, v, by
    unfold results
    rw [h]
    have hg := F.get s _ hs
    simp only [List.mapM_toArray, List.mapM_cons, List.mapM_nil, hg, asAddr]
    simp only [bind_assoc, pure_bind, Sem.run_bind, Sem.run_map, Sem.run_pure, hv, Result.andThen_ok]
    rfl, hR⟩

def oneB (P : Program) (t : TypeId) : Bool := match P.underlying t with
  | some (.struct _) | some (.array _ _) => false
  | some _ => true
  | none => false
def aggB (P : Program) (t : TypeId) : Bool := match P.underlying t with
  | some (.struct _) | some (.array _ _) => true
  | _ => false
def szB (P : Program) (t : TypeId) : Option Nat := (P.info? t).map (·.size)
def zeroB (P : Program) (t : TypeId) : Option Value := (P.info? t).bind (·.zero)
def fldB (P : Program) (t i : Nat) : Option (Nat × Bool) := match P.underlying t with
  | some (.struct fs) => (fs[i]?).map fun f => (f.offset, (P.info? f.type).map (·.size) != some 0 && (P.info? f.type).isSome)
  | _ => none
def entB (P : Program) (f : FuncId) : Bool := match P.funcs[f]? with
  | some fn => fn.body.isSome && !(fn.name == "runtime.NumGoroutine")
  | none => false
def evsM (M : Slots) : List Operand → Option (List Value)
  | [] => some []
  | x :: l => match evM M x, evsM M l with
    | some v, some vs => some (v :: vs)
    | _, _ => none

section
variable {P : Program} {w w' : World} {o : Oper} {n : Nat} {D : List Deferred} {M : Slots} {v vx vy : Value} {x y : Operand} {t : TypeId}

theorem R.move (ho : o.op = .move x) (hx : evM M x = some v) : Runs P n D M o w (.value v) w := fun a F => by
  unfold execOp; simp only [ho, F.ev hx, Sem.run_pure]
theorem R.assign (ho : o.op = .assign x) (hx : evM M x = some v) : Runs P n D M o w (.value v) w := fun a F => by
  unfold execOp; simp only [ho, F.ev hx, Sem.run_pure]
theorem R.load (ho : o.op = .load t x) (hx : evM M x = some vx) (hr : (Instr.loadAt t vx).run P w = .ok v w') : Runs P n D M o w (.value v) w' := fun a F => by
  unfold execOp; simp only [ho, F.ev hx, Sem.run_bind, Sem.run_pure, hr, Result.andThen_ok]
theorem R.store (ho : o.op = .store t x y) (hx : evM M x = some vx) (hy : evM M y = some vy) (hr : (Instr.storeAt t vx vy).run P w = .ok () w') : Runs P n D M o w .skip w' := fun a F => by
  unfold execOp; simp only [ho, F.ev hx, F.ev hy, Sem.run_bind, Sem.run_pure, hr, Result.andThen_ok]
theorem R.box (ho : o.op = .box t x) (hx : evM M x = some vx) (hr : (Instr.box t vx).run P w = .ok v w') : Runs P n D M o w (.value v) w' := fun a F => by
  unfold execOp; simp only [ho, F.ev hx, Sem.run_bind, Sem.run_pure, hr, Result.andThen_ok]
theorem R.alloc (ho : o.op = .alloc t) (hr : (Instr.alloc t true (.tuple #[])).run P w = .ok v w') : Runs P n D M o w (.value v) w' := fun a F => by
  unfold execOp; simp only [ho, Sem.run_bind, Sem.run_pure, hr, Result.andThen_ok]
theorem R.nil {p : Addr} (ho : o.op = .nilCheck x) (hx : evM M x = some (.pointer (some p))) : Runs P n D M o w (.value (.pointer (some p))) w := fun a F => by
  unfold execOp; simp only [ho, F.ev hx]; rfl
theorem R.field {i : Nat} (ho : o.op = .fieldAddr t x i) (hx : evM M x = some vx) (hr : (Instr.fieldAt t vx i).run P w = .ok v w') : Runs P n D M o w (.value v) w' := fun a F => by
  unfold execOp; simp only [ho, F.ev hx, Sem.run_bind, Sem.run_pure, hr, Result.andThen_ok]
theorem R.fieldV {i : Nat} (ho : o.op = .field t x i) (hx : evM M x = some vx) (hr : (Instr.field t vx i).run P w = .ok v w') : Runs P n D M o w (.value v) w' := fun a F => by
  unfold execOp; simp only [ho, F.ev hx, Sem.run_bind, Sem.run_pure, hr, Result.andThen_ok]
theorem R.index (ho : o.op = .indexAddr t x y) (hx : evM M x = some vx) (hy : evM M y = some vy) (hr : (Instr.indexAt t vx vy).run P w = .ok v w') : Runs P n D M o w (.value v) w' := fun a F => by
  unfold execOp; simp only [ho, F.ev hx, F.ev hy, Sem.run_bind, Sem.run_pure, hr, Result.andThen_ok]
theorem R.indexV (ho : o.op = .index t x y) (hx : evM M x = some vx) (hy : evM M y = some vy) (hr : (Instr.index t vx vy).run P w = .ok v w') : Runs P n D M o w (.value v) w' := fun a F => by
  unfold execOp; simp only [ho, F.ev hx, F.ev hy, Sem.run_bind, Sem.run_pure, hr, Result.andThen_ok]
theorem R.bin {op : BinOp} {u : TypeId} (ho : o.op = .binOp op t x y u) (hx : evM M x = some vx) (hy : evM M y = some vy) (hr : ((do eqGuard op t x y vx vy; binOp op t vx vy) : Sem Value).run P w = .ok v w') : Runs P n D M o w (.value v) w' := fun a F => by
  unfold execOp; simp only [ho, F.ev hx, F.ev hy, Sem.run_bind, Sem.run_pure] at hr ⊢; rw [hr]; rfl
theorem R.un {op : UnOp} (ho : o.op = .unOp op t x) (hx : evM M x = some vx) (hr : (Op.unary op vx).run P w = .ok v w') : Runs P n D M o w (.value v) w' := fun a F => by
  unfold execOp; simp only [ho, F.ev hx, Sem.run_bind, Sem.run_pure, hr, Result.andThen_ok]
theorem R.conv {u : TypeId} (ho : o.op = .convert t u x) (hx : evM M x = some vx) (hr : (convert t u vx).run P w = .ok v w') : Runs P n D M o w (.value v) w' := fun a F => by
  unfold execOp; simp only [ho, F.ev hx, Sem.run_bind, Sem.run_pure, hr, Result.andThen_ok]
theorem R.make (ho : o.op = .makeSlice t x y) (hx : evM M x = some vx) (hy : evM M y = some vy) (hr : (Instr.makeSlice t vx vy).run P w = .ok v w') : Runs P n D M o w (.value v) w' := fun a F => by
  unfold execOp; simp only [ho, F.ev hx, F.ev hy, Sem.run_bind, Sem.run_pure, hr, Result.andThen_ok]
theorem R.extract {i : Nat} {vs : Array Value} (ho : o.op = .extract x i) (hx : evM M x = some (.tuple vs)) (hv : vs[i]? = some v) : Runs P n D M o w (.value v) w := fun a F => by
  unfold execOp; simp only [ho, F.ev hx, Instr.extract, hv, Sem.run_bind, Sem.run_pure, Result.andThen_ok]
theorem R.pick {c : Operand} {b : Bool} (ho : o.op = .pick c x y) (hc : evM M c = some (.bool b)) (hv : evM M (bif b then x else y) = some v) : Runs P n D M o w (.value v) w := fun a F => by
  have := F.ev hv
  unfold execOp
  cases b
  · simp only [cond_false] at this
    simp only [ho, F.ev hc, asBool, Sem.run_bind, Sem.run_pure, Result.andThen_ok, this, Bool.false_eq_true, if_false]
  · simp only [cond_true] at this
    simp only [ho, F.ev hc, asBool, Sem.run_bind, Sem.run_pure, Result.andThen_ok, this, if_true]
def evo (M : Slots) : Option Operand → Option (Option Value)
  | none => some none
  | some x => (evM M x).map some
theorem evo_map {a : Act} (F : Fr n D M a) {l : Option Operand} {lv : Option Value} (h : evo M l = some lv) : l.map a.eval = lv := by
  cases l with
  | none => cases h; rfl
  | some x =>
    simp only [evo] at h
    cases hx : evM M x with
    | none => rw [hx] at h; cases h
    | some u => rw [hx] at h; cases h; simp [F.ev hx]
theorem R.slice {l h m : Option Operand} {lv hv mv : Option Value} (ho : o.op = .slice t x l h m) (hx : evM M x = some vx) (h1 : evo M l = some lv) (h2 : evo M h = some hv) (h3 : evo M m = some mv) (hr : (Instr.sliceAt t vx lv hv mv).run P w = .ok v w') : Runs P n D M o w (.value v) w' := fun a F => by
  unfold execOp; simp only [ho, F.ev hx, evo_map F h1, evo_map F h2, evo_map F h3, Sem.run_bind, Sem.run_pure, hr, Result.andThen_ok]
theorem evs_map {a : Act} (F : Fr n D M a) : ∀ {l : List Operand} {vs : List Value}, evsM M l = some vs → l.map a.eval = vs
  | [], vs, h => by cases h; rfl
  | x :: l, vs, h => by
    simp only [evsM] at h
    cases hx : evM M x with
    | none => rw [hx] at h; cases h
    | some u =>
      cases hr : evsM M l with
      | none => rw [hx, hr] at h; cases h
      | some us => rw [hx, hr] at h; cases h; simp [F.ev hx, evs_map F hr]
theorem evs_mapA {a : Act} (F : Fr n D M a) {xs : Array Operand} {vs : List Value} (h : evsM M xs.toList = some vs) : xs.map a.eval = vs.toArray := by
  rw [← evs_map F h]; cases xs; simp
theorem ent_of {f : FuncId} (h : entB P f = true) (args : Array Value) (w : World) : (callFunc f args).run P w = .ok (.enter f args) w := by
  unfold entB at h
  cases hf : P.funcs[f]? with
  | none => rw [hf] at h; cases h
  | some fn =>
    rw [hf] at h
    simp only [Bool.and_eq_true] at h
    cases hb : fn.body with
    | none => rw [hb] at h; simp at h
    | some c => exact enters_of hf (by simpa using h.2) hb args w
/-- A call of a named function. -/
theorem R.call {f : FuncId} {xs : Array Operand} {ts : Array TypeId} {vs : List Value} (ho : o.op = .call { callee := .value (.func f), args := xs, argTypes := ts }) (hx : evsM M xs.toList = some vs) (eg : entB P f = true) : Runs P n D M o w (.enter f vs.toArray) w := fun a F => by
  have hm := evs_mapA F hx
  unfold execOp
  simp only [ho]
  have hf : a.eval (.func f) = .func (.func f) #[] #[] := rfl
  simp only [resolve, hf, hm, Deferred.ofValue, invoke, Sem.run_bind, Sem.run_pure, Result.andThen_ok, Array.empty_append, Array.append_empty]
  exact ent_of eg _ _
/-- A call of a function's value. -/
theorem R.callV {f : FuncId} {xs : Array Operand} {ts : Array TypeId} {vs : List Value} {cap : Array Value} (ho : o.op = .call { callee := .value x, args := xs, argTypes := ts }) (hf : evM M x = some (.func (.func f) #[] cap)) (hx : evsM M xs.toList = some vs) (eg : entB P f = true) : Runs P n D M o w (.enter f (vs.toArray ++ cap)) w := fun a F => by
  have hm := evs_mapA F hx
  unfold execOp
  simp only [ho]
  simp only [resolve, F.ev hf, hm, Deferred.ofValue, invoke, Sem.run_bind, Sem.run_pure, Result.andThen_ok, Array.empty_append]
  exact ent_of eg _ _
theorem R.builtin {b : Builtin} {xs : Array Operand} {ts : Array TypeId} {vs : List Value} (ho : o.op = .call { callee := .builtin b, args := xs, argTypes := ts }) (hx : evsM M xs.toList = some vs) {z : Next} (hr : ∀ cs, (builtin b ts o.type cs vs.toArray).run P w = .ok z w') : Runs P n D M o w z w' := fun a F => by
  have hm := evs_mapA F hx
  unfold execOp
  simp only [ho, resolve, invoke, hm, Sem.run_bind, Sem.run_pure, Result.andThen_ok]
  exact hr _
theorem R.func {fn : Fn} {f1 f2 : Array Operand} {v1 v2 : List Value} (ho : o.op = .makeFunc fn f1 f2) (h1 : evsM M f1.toList = some v1) (h2 : evsM M f2.toList = some v2) : Runs P n D M o w (.value (.func fn v1.toArray v2.toArray)) w := fun a F => by
  unfold execOp
  simp only [ho, evs_mapA F h1, evs_mapA F h2, Instr.makeFunc, Sem.run_bind, Sem.run_pure, Result.andThen_ok]
theorem R.build {ps : Array (Nat × Operand)} {vs : List (Nat × Value)} (ho : o.op = .build t ps) (hx : ∀ a, Fr n D M a → (ps.map fun (i, x) => (i, a.eval x)) = vs.toArray) (hr : (Instr.build t vs.toArray).run P w = .ok v w') : Runs P n D M o w (.value v) w' := fun a F => by
  unfold execOp; simp only [ho, hx a F, Sem.run_bind, Sem.run_pure, hr, Result.andThen_ok]
def evpM (M : Slots) : List (Nat × Operand) → Option (List (Nat × Value))
  | [] => some []
  | (i, x) :: l => match evM M x, evpM M l with
    | some v, some vs => some ((i, v) :: vs)
    | _, _ => none
theorem evp_map {a : Act} (F : Fr n D M a) : ∀ {l : List (Nat × Operand)} {vs : List (Nat × Value)}, evpM M l = some vs → (l.map fun (i, x) => (i, a.eval x)) = vs
  | [], vs, h => by cases h; rfl
  | (i, x) :: l, vs, h => by
    simp only [evpM] at h
    cases hx : evM M x with
    | none => rw [hx] at h; cases h
    | some u =>
      cases hr : evpM M l with
      | none => rw [hx, hr] at h; cases h
      | some us => rw [hx, hr] at h; cases h; simp [F.ev hx, evp_map F hr]
theorem R.build' {ps : Array (Nat × Operand)} {vs : List (Nat × Value)} (ho : o.op = .build t ps) (hx : evpM M ps.toList = some vs) (hr : (Instr.build t vs.toArray).run P w = .ok v w') : Runs P n D M o w (.value v) w' :=
  R.build ho (fun a F => by rw [← evp_map F hx]; cases ps; simp) hr
theorem R.buildSlice {ps : Array (Nat × Operand)} {k : Nat} {vs : List (Nat × Value)} (ho : o.op = .buildSlice t k ps) (hx : evpM M ps.toList = some vs) (hr : (Instr.buildSlice t k vs.toArray).run P w = .ok v w') : Runs P n D M o w (.value v) w' := fun a F => by
  have : (ps.map fun (i, x) => (i, a.eval x)) = vs.toArray := by rw [← evp_map F hx]; cases ps; simp
  unfold execOp; simp only [ho, this, Sem.run_bind, Sem.run_pure, hr, Result.andThen_ok]
end

theorem grown_set (w : World) (p : Addr) (v : Value) : w.grownBy (w.setCell p v) (some p.block) := ⟨rfl, rfl, rfl, by simp [World.setCell], fun k _ hne => Below.heap_setCell _ _ _ _ (by simpa using hne)⟩
/-! The instructions. -/
section
variable {P : Program} {w w' : World} {t : TypeId} {v : Value} {p : Addr}

theorem isAgg_one (h : oneB P t = true) (w : World) : (isAgg t).run P w = .ok false w := by
  unfold oneB at h
  cases hu : P.underlying t with
  | none => rw [hu] at h; cases h
  | some u =>
    rw [hu] at h
    unfold isAgg
    simp only [Sem.run_bind, run_underlying hu, Result.andThen_ok]
    cases u <;> first | rfl | cases h
theorem isAgg_agg (h : aggB P t = true) (w : World) : (isAgg t).run P w = .ok true w := by
  unfold aggB at h
  cases hu : P.underlying t with
  | none => rw [hu] at h; cases h
  | some u =>
    rw [hu] at h
    unfold isAgg
    simp only [Sem.run_bind, run_underlying hu, Result.andThen_ok]
    cases u <;> first | rfl | cases h
theorem size_of_sz {k : Nat} (h : szB P t = some k) (w : World) : (sizeOf t).run P w = .ok k w := by
  unfold szB at h
  cases hi : P.info? t with
  | none => rw [hi] at h; cases h
  | some i => rw [hi] at h; cases h; simp [sizeOf, typeInfo, hi]
theorem zero_of (h : zeroB P t = some v) (w : World) : (zeroValue t).run P w = .ok v w := by
  unfold zeroB at h
  cases hi : P.info? t with
  | none => rw [hi] at h; cases h
  | some i => rw [hi] at h; simp at h; simp [zeroValue, typeInfo, hi, h]

theorem lv1 (hT : oneB P t = true) (hc : w.cell? p = some v) : (loadVar t p).run P w = .ok v w := by
  unfold loadVar
  simp [isAgg_one hT, hc]
theorem I.ld1 (hT : oneB P t = true) (hc : w.cell? p = some v) : (Instr.loadAt t (.pointer (some p))).run P w = .ok v w := by
  unfold Instr.loadAt Instr.sureAddr
  simp [lv1 hT hc]
/-- These cells lie there, one beside the other. -/
def Cells (w : World) (p : Addr) (vs : List Value) : Prop := ∀ j v, vs[j]? = some v → w.cell? (p.add j) = some v
theorem lvN {vs : List Value} (hT : aggB P t = true) (hz : szB P t = some vs.length) (hc : Cells w p vs) : (loadVar t p).run P w = .ok (.agg vs.toArray) w := by
  have hl := run_loadCells_list (P := P) (w := w) p vs hc
  unfold loadVar
  simp [isAgg_agg hT, size_of_sz hz, hl]
theorem I.ldN {vs : List Value} (hT : aggB P t = true) (hz : szB P t = some vs.length) (hc : Cells w p vs) : (Instr.loadAt t (.pointer (some p))).run P w = .ok (.agg vs.toArray) w := by
  unfold Instr.loadAt Instr.sureAddr
  simp [lvN hT hz hc]
theorem add_plain (b off j : Nat) : (⟨b, off, none⟩ : Addr).add j = ⟨b, off + j, none⟩ := Addr.add_lit b off j
theorem RowL.cells {w : World} {g e off : Nat} {xs vs : List Value} (h : RowL w g e xs) (hv : (xs.drop off).take vs.length = vs) : Cells w ⟨g, off, none⟩ vs := fun j v hj => by
  rw [add_plain]
  refine h.cell ?_
  rw [← hv] at hj
  rw [List.getElem?_take] at hj
  split at hj
  · rw [List.getElem?_drop] at hj; exact hj
  · cases hj

theorem I.st1 {u : Value} (hz : szB P t = some 1) (hc : w.cell? p = some u) (hf : w.frozen? p = false) (h1 : v.oneCell' = true) (hcs : v.cells = #[v]) : (Instr.storeAt t (.pointer (some p)) v).run P w = .ok () (w.setCell p v) := by
  unfold Instr.storeAt Instr.sureAddr storeVar
  have h0 : p.add 0 = p := by simp [Addr.add]
  have hs : (store p v).run P w = .ok () (w.setCell p v) := by rw [run_store P w p v .plain h1]; simp [hc, hf]
  simp [size_of_sz hz, hcs, storeCells, h0, hs, Sem.run_bind]
theorem setRow_grown (w : World) (g : Nat) (cs : Array Value) : w.grownBy (w.setRow g cs) (some g) := ⟨rfl, rfl, rfl, by simp, fun k _ hne => setRow_other w g k cs (by simpa using hne)⟩
/-- A whole variable, or a part, of a row that is known. -/
theorem I.stN {g off e : Nat} {xs vs : List Value} (hz : szB P t = some vs.length) (hr : RowL w g e xs) (hl : off + vs.length ≤ xs.length) (h1 : ∀ u ∈ vs, u.oneCell' = true) :
    ∃ w', (Instr.storeAt t (.pointer (some ⟨g, off, none⟩)) (.agg vs.toArray)).run P w = .ok () w' ∧ RowL w' g e (xs.take off ++ vs ++ xs.drop (off + vs.length)) ∧ w.grownBy w' (some g) ∧ w'.heap.size = w.heap.size := by
  have hs := run_storeCells_at (P := P) g off e vs 0 xs.toArray w hr (by simpa using hl) h1
  simp only [Nat.add_zero] at hs
  refine ⟨w.setRow g (xs.take off ++ vs ++ xs.drop (off + vs.length)).toArray, ?_, setRow_heap w g xs.toArray _ e (0, 0) hr, setRow_grown w g _, by simp⟩
  unfold Instr.storeAt Instr.sureAddr storeVar
  simp [size_of_sz hz, Value.cells, hs, Sem.run_bind]
/-- One cell of a row that is known. -/
theorem I.st1R {g off e : Nat} {xs : List Value} (hz : szB P t = some 1) (hr : RowL w g e xs) (hl : off < xs.length) (h1 : v.oneCell' = true) (hcs : v.cells = #[v]) : (Instr.storeAt t (.pointer (some ⟨g, off, none⟩)) v).run P w = .ok () (w.setCell ⟨g, off, none⟩ v) :=
  I.st1 hz (hr.cell (u := xs[off]) (by simp [hl])) (hr.frozen off) h1 hcs
theorem I.fld {i off g o : Nat} (h : fldB P t i = some (off, true)) : (Instr.fieldAt t (.pointer (some ⟨g, o, none⟩)) i).run P w = .ok (.pointer (some ⟨g, o + off, none⟩)) w := by
  unfold fldB at h
  cases hu : P.underlying t with
  | none => rw [hu] at h; cases h
  | some u =>
    rw [hu] at h
    cases u <;> try (cases h; done)
    rename_i fs
    simp only at h
    cases hf : fs[i]? with
    | none => rw [hf] at h; cases h
    | some f =>
      rw [hf] at h
      simp only [Option.map_some, Option.some.injEq, Prod.mk.injEq, Bool.and_eq_true] at h
      obtain ⟨rfl, h1, h2⟩ := h
      cases hi : P.info? f.type with
      | none => rw [hi] at h2; cases h2
      | some ti =>
        rw [hi] at h1
        have hne : ti.size ≠ 0 := by simpa using h1
        unfold Instr.fieldAt Instr.sureAddr fieldPlace
        simp [run_underlying hu, hf, sizeOf, typeInfo, hi, hne, add_plain]

def slB (P : Program) (t : TypeId) : Option (TypeId × Nat) := match P.underlying t with
  | some (.slice e) => (szB P e).map fun k => (e, k)
  | _ => none
def arB (P : Program) (t : TypeId) : Option (Nat × Nat) := match P.underlying t with
  | some (.array n e) => (szB P e).map fun k => (n, k)
  | _ => none
theorem sl_of {e k : Nat} (h : slB P t = some (e, k)) : P.underlying t = some (.slice e) ∧ szB P e = some k := by
  unfold slB at h
  cases hu : P.underlying t with
  | none => rw [hu] at h; cases h
  | some u =>
    rw [hu] at h
    cases u <;> try (cases h; done)
    rename_i f
    simp only at h
    cases hz : szB P f with
    | none => rw [hz] at h; cases h
    | some m => rw [hz] at h; cases h; exact ⟨rfl, hz⟩
theorem ar_of {n k : Nat} (h : arB P t = some (n, k)) : ∃ e, P.underlying t = some (.array n e) ∧ szB P e = some k := by
  unfold arB at h
  cases hu : P.underlying t with
  | none => rw [hu] at h; cases h
  | some u =>
    rw [hu] at h
    cases u <;> try (cases h; done)
    rename_i m f
    simp only at h
    cases hz : szB P f with
    | none => rw [hz] at h; cases h
    | some m => rw [hz] at h; cases h; exact ⟨f, rfl, hz⟩
/-- An element of a slice. -/
theorem I.ixS {e k b off len cap i : Nat} (h : slB P t = some (e, k)) (hi : i < len) : (Instr.indexAt t (.slice (some ⟨b, off, none⟩) len cap) (.int .i64 (i : Int))).run P w = .ok (.pointer (some ⟨b, off + i * k, none⟩)) w := by
  obtain ⟨hu, hz⟩ := sl_of h
  have h1 : (i : Int) < (len : Int) := by omega
  unfold Instr.indexAt
  simp [asIntOf, run_underlying hu, h1, size_of_sz hz, add_plain]
  exact fun hh => absurd hi (by omega)
theorem I.ixS1 {e b off len cap i : Nat} (h : slB P t = some (e, 1)) (hi : i < len) : (Instr.indexAt t (.slice (some ⟨b, off, none⟩) len cap) (.int .i64 (i : Int))).run P w = .ok (.pointer (some ⟨b, off + i, none⟩)) w := by
  have := I.ixS (P := P) (w := w) (b := b) (off := off) (cap := cap) h hi
  rwa [Nat.mul_one] at this
/-- An element of an array variable. -/
theorem I.ixA {n k b off i : Nat} (h : arB P t = some (n, k)) (hi : i < n) : (Instr.indexAt t (.pointer (some ⟨b, off, none⟩)) (.int .i64 (i : Int))).run P w = .ok (.pointer (some ⟨b, off + i * k, none⟩)) w := by
  obtain ⟨e, hu, hz⟩ := ar_of h
  have h1 : (i : Int) < (n : Int) := by omega
  unfold Instr.indexAt Instr.sureAddr
  simp [asIntOf, run_underlying hu, h1, size_of_sz hz, add_plain]
  exact fun hh => absurd hi (by omega)
theorem I.ixA1 {n b off i : Nat} (h : arB P t = some (n, 1)) (hi : i < n) : (Instr.indexAt t (.pointer (some ⟨b, off, none⟩)) (.int .i64 (i : Int))).run P w = .ok (.pointer (some ⟨b, off + i, none⟩)) w := by
  have := I.ixA (P := P) (w := w) (b := b) (off := off) h hi
  rwa [Nat.mul_one] at this
/-- A whole array as a slice. -/
theorem I.slA {n k b off : Nat} (h : arB P t = some (n, k)) : (Instr.sliceAt t (.pointer (some ⟨b, off, none⟩)) none none none).run P w = .ok (.slice (some ⟨b, off, none⟩) n n) w := by
  obtain ⟨e, hu, hz⟩ := ar_of h
  unfold Instr.sliceAt Instr.sureAddr Instr.sliceBounds
  simp [run_underlying hu, size_of_sz hz, Addr.add]
/-- The first so many of an array. -/
theorem I.slAto {n k b off m : Nat} (h : arB P t = some (n, k)) (hm : m ≤ n) : (Instr.sliceAt t (.pointer (some ⟨b, off, none⟩)) none (some (.int .i64 (m : Int))) none).run P w = .ok (.slice (some ⟨b, off, none⟩) m n) w := by
  obtain ⟨e, hu, hz⟩ := ar_of h
  have h1 : (m : Int) ≤ (n : Int) := by omega
  unfold Instr.sliceAt Instr.sureAddr Instr.sliceBounds Instr.sliceBound
  simp [run_underlying hu, size_of_sz hz, Addr.add, asIntOf, h1]
  exact fun hh => absurd hm (by omega)
theorem slAt_sl {e k : Nat} {v l : Value} {lo hi mx : Option Value} (h : slB P t = some (e, k)) (hr : (Instr.slice t v lo hi mx).run P w = .ok l w') : (Instr.sliceAt t v lo hi mx).run P w = .ok l w' := by
  obtain ⟨hu, _⟩ := sl_of h
  unfold Instr.sliceAt
  simp only [Sem.run_bind, run_underlying hu, Result.andThen_ok]
  exact hr

theorem run_box {cs : List Value} (h : v.cells = cs.toArray) : (Instr.box t v).run P w = .ok (.pointer (some ⟨w.heap.size, 0, none⟩)) (w.alloc (.cells cs.toArray t)) := by
  unfold Instr.box newVar newRow
  rw [h]
  simp [Sem.run_bind, run_newObj_alloc]
theorem run_alloc {cs : List Value} (hz : zeroB P t = some v) (h : v.cells = cs.toArray) : (Instr.alloc t true (.tuple #[])).run P w = .ok (.pointer (some ⟨w.heap.size, 0, none⟩)) (w.alloc (.cells cs.toArray t)) := by
  unfold Instr.alloc newVar newRow
  simp [zero_of hz, h, Sem.run_bind, run_newObj_alloc]

/-! Integers. -/
theorem I.addI {a b : Int} {x y : Operand} (h : -9223372036854775808 ≤ a + b ∧ a + b ≤ 9223372036854775807) : ((do eqGuard .add t x y (.int .i64 a) (.int .i64 b); binOp .add t (.int .i64 a) (.int .i64 b)) : Sem Value).run P w = .ok (.int .i64 (a + b)) w := by
  simp [eqGuard, binOp, Op.intArith, IntWalk.i64_in _ h]
theorem I.subI {a b : Int} {x y : Operand} (h : -9223372036854775808 ≤ a - b ∧ a - b ≤ 9223372036854775807) : ((do eqGuard .sub t x y (.int .i64 a) (.int .i64 b); binOp .sub t (.int .i64 a) (.int .i64 b)) : Sem Value).run P w = .ok (.int .i64 (a - b)) w := by
  simp [eqGuard, binOp, Op.intArith, IntWalk.i64_in _ h]
theorem I.mulI {a b : Int} {x y : Operand} (h : -9223372036854775808 ≤ a * b ∧ a * b ≤ 9223372036854775807) : ((do eqGuard .mul t x y (.int .i64 a) (.int .i64 b); binOp .mul t (.int .i64 a) (.int .i64 b)) : Sem Value).run P w = .ok (.int .i64 (a * b)) w := by
  simp [eqGuard, binOp, Op.intArith, IntWalk.i64_in _ h]
theorem I.addN {a b : Nat} {x y : Operand} (h : a + b ≤ 9223372036854775807) : ((do eqGuard .add t x y (.int .i64 (a : Int)) (.int .i64 (b : Int)); binOp .add t (.int .i64 (a : Int)) (.int .i64 (b : Int))) : Sem Value).run P w = .ok (.int .i64 ((a + b : Nat) : Int)) w := by
  rw [I.addI (by omega)]; simp
theorem I.subN {a b : Nat} {x y : Operand} (h : b ≤ a) (h2 : a ≤ 9223372036854775807) : ((do eqGuard .sub t x y (.int .i64 (a : Int)) (.int .i64 (b : Int)); binOp .sub t (.int .i64 (a : Int)) (.int .i64 (b : Int))) : Sem Value).run P w = .ok (.int .i64 ((a - b : Nat) : Int)) w := by
  rw [I.subI (by omega), Int.ofNat_sub h]
theorem I.mulN {a b : Nat} {x y : Operand} (h : a * b ≤ 9223372036854775807) : ((do eqGuard .mul t x y (.int .i64 (a : Int)) (.int .i64 (b : Int)); binOp .mul t (.int .i64 (a : Int)) (.int .i64 (b : Int))) : Sem Value).run P w = .ok (.int .i64 ((a * b : Nat) : Int)) w := by
  have e : ((a : Int) * (b : Int)) = ((a * b : Nat) : Int) := by simp
  rw [I.mulI (by rw [e]; omega), e]
theorem I.quoN {a b : Nat} {x y : Operand} (h : 0 < b) (h2 : a ≤ 9223372036854775807) : ((do eqGuard .quo t x y (.int .i64 (a : Int)) (.int .i64 (b : Int)); binOp .quo t (.int .i64 (a : Int)) (.int .i64 (b : Int))) : Sem Value).run P w = .ok (.int .i64 ((a / b : Nat) : Int)) w := by
  have e : ((a : Int).tdiv (b : Int)) = ((a / b : Nat) : Int) := by rw [Int.tdiv_eq_ediv_of_nonneg (by omega)]; simp
  have hle : a / b ≤ a := Nat.div_le_self _ _
  obtain ⟨q, hq⟩ : ∃ q, a / b = q := ⟨_, rfl⟩
  rw [hq] at e hle ⊢
  have hb : b ≠ 0 := by omega
  simp [eqGuard, binOp, Op.intDiv, hb, e, IntWalk.i64_in (q : Int) (by omega)]
theorem I.remN {a b : Nat} {x y : Operand} (h : 0 < b) : ((do eqGuard .rem t x y (.int .i64 (a : Int)) (.int .i64 (b : Int)); binOp .rem t (.int .i64 (a : Int)) (.int .i64 (b : Int))) : Sem Value).run P w = .ok (.int .i64 ((a % b : Nat) : Int)) w := by
  have e : ((a : Int).tmod (b : Int)) = ((a % b : Nat) : Int) := by rw [Int.tmod_eq_emod_of_nonneg (by omega)]; simp
  obtain ⟨q, hq⟩ : ∃ q, a % b = q := ⟨_, rfl⟩
  rw [hq] at e ⊢
  have hb : b ≠ 0 := by omega
  simp [eqGuard, binOp, Op.intDiv, hb, e]
section
variable {k : IntKind} {a b : Int} {x y : Operand}
theorem I.ltT (h : a < b) : ((do eqGuard .lss t x y (.int k a) (.int k b); binOp .lss t (.int k a) (.int k b)) : Sem Value).run P w = .ok (.bool true) w := by simp [eqGuard, binOp, Op.intCmp, h]
theorem I.ltF (h : b ≤ a) : ((do eqGuard .lss t x y (.int k a) (.int k b); binOp .lss t (.int k a) (.int k b)) : Sem Value).run P w = .ok (.bool false) w := by simp [eqGuard, binOp, Op.intCmp, h]
theorem I.leT (h : a ≤ b) : ((do eqGuard .leq t x y (.int k a) (.int k b); binOp .leq t (.int k a) (.int k b)) : Sem Value).run P w = .ok (.bool true) w := by simp [eqGuard, binOp, Op.intCmp, h]
theorem I.leF (h : b < a) : ((do eqGuard .leq t x y (.int k a) (.int k b); binOp .leq t (.int k a) (.int k b)) : Sem Value).run P w = .ok (.bool false) w := by simp [eqGuard, binOp, Op.intCmp, h]
theorem I.gtT (h : b < a) : ((do eqGuard .gtr t x y (.int k a) (.int k b); binOp .gtr t (.int k a) (.int k b)) : Sem Value).run P w = .ok (.bool true) w := by simp [eqGuard, binOp, Op.intCmp, h]
theorem I.gtF (h : a ≤ b) : ((do eqGuard .gtr t x y (.int k a) (.int k b); binOp .gtr t (.int k a) (.int k b)) : Sem Value).run P w = .ok (.bool false) w := by simp [eqGuard, binOp, Op.intCmp, h]
theorem I.geT (h : b ≤ a) : ((do eqGuard .geq t x y (.int k a) (.int k b); binOp .geq t (.int k a) (.int k b)) : Sem Value).run P w = .ok (.bool true) w := by simp [eqGuard, binOp, Op.intCmp, h]
theorem I.geF (h : a < b) : ((do eqGuard .geq t x y (.int k a) (.int k b); binOp .geq t (.int k a) (.int k b)) : Sem Value).run P w = .ok (.bool false) w := by simp [eqGuard, binOp, Op.intCmp, h]
theorem I.eqT (h : a = b) : ((do eqGuard .eql t x y (.int k a) (.int k b); binOp .eql t (.int k a) (.int k b)) : Sem Value).run P w = .ok (.bool true) w := by simp [eqGuard, binOp, Op.intCmp, h]
theorem I.eqF (h : a ≠ b) : ((do eqGuard .eql t x y (.int k a) (.int k b); binOp .eql t (.int k a) (.int k b)) : Sem Value).run P w = .ok (.bool false) w := by simp [eqGuard, binOp, Op.intCmp, h]
theorem I.neT (h : a ≠ b) : ((do eqGuard .neq t x y (.int k a) (.int k b); binOp .neq t (.int k a) (.int k b)) : Sem Value).run P w = .ok (.bool true) w := by simp [eqGuard, binOp, Op.intCmp, h]
theorem I.neF (h : a = b) : ((do eqGuard .neq t x y (.int k a) (.int k b); binOp .neq t (.int k a) (.int k b)) : Sem Value).run P w = .ok (.bool false) w := by simp [eqGuard, binOp, Op.intCmp, h]
/-- Left open. -/
theorem I.eqB : ((do eqGuard .eql t x y (.int k a) (.int k b); binOp .eql t (.int k a) (.int k b)) : Sem Value).run P w = .ok (.bool (a == b)) w := by simp [eqGuard, binOp, Op.intCmp]
theorem I.ltB : ((do eqGuard .lss t x y (.int k a) (.int k b); binOp .lss t (.int k a) (.int k b)) : Sem Value).run P w = .ok (.bool (decide (a < b))) w := by simp [eqGuard, binOp, Op.intCmp]
theorem I.gtB : ((do eqGuard .gtr t x y (.int k a) (.int k b); binOp .gtr t (.int k a) (.int k b)) : Sem Value).run P w = .ok (.bool (decide (a > b))) w := by simp [eqGuard, binOp, Op.intCmp]
end
theorem I.not {b : Bool} : (Op.unary .not (.bool b)).run P w = .ok (.bool (!b)) w := by simp [Op.unary]
def intB (P : Program) (t : TypeId) : Option IntKind := match P.underlying t with
  | some (.int k) => some k
  | _ => none
theorem int_of {k : IntKind} (h : intB P t = some k) : P.underlying t = some (.int k) := by
  unfold intB at h
  cases hu : P.underlying t with
  | none => rw [hu] at h; cases h
  | some u =>
    rw [hu] at h
    cases u <;> try (cases h; done)
    cases h; rfl
theorem I.conv {s : TypeId} {k j : IntKind} {n : Int} (hs : intB P s = some j) (ht : intB P t = some k) : (convert s t (.int j n)).run P w = .ok (.int k (k.wrap n)) w := by
  unfold convert
  simp [run_underlying (int_of hs), run_underlying (int_of ht), Conv.intToInt]
def lenB (P : Program) (t : TypeId) (v : Value) : Option Nat := match P.underlying t, v with
  | some .string, .string s => some s.size
  | some (.array n _), _ => some n
  | some (.slice _), .slice _ n _ => some n
  | _, _ => none
theorem I.len {n : Nat} {ts : Array TypeId} {u : TypeId} {cs : Array Bool} (ht : ts[0]? = some t) (h : lenB P t v = some n) : (builtin .len ts u cs #[v]).run P w = .ok (.value (.int .i64 (n : Int))) w := by
  unfold lenB at h
  have h0 : (#[v] : Array Value)[0]? = some v := rfl
  unfold builtin Builtin.len_
  simp only [ht, h0]
  cases hu : P.underlying t with
  | none => rw [hu] at h; simp at h
  | some d =>
    rw [hu] at h
    cases d <;> first
      | (cases h; done)
      | (simp only [Option.some.injEq] at h; subst h; simp [run_underlying hu, goInt]; done)
      | (cases v <;> first | (cases h; done) | (simp only [Option.some.injEq] at h; subst h; simp [run_underlying hu, goInt]; done))
end

section
variable {P : Program} {w : World} {o : Oper} {n : Nat} {D : List Deferred} {M : Slots} {x y : Operand} {t u : TypeId}
theorem R.addN {a b : Nat} (ho : o.op = .binOp .add t x y u) (hx : evM M x = some (.int .i64 (a : Int))) (hy : evM M y = some (.int .i64 (b : Int))) (h : a + b ≤ 9223372036854775807) : Runs P n D M o w (.value (.int .i64 ((a + b : Nat) : Int))) w := R.bin ho hx hy (I.addN h)
theorem R.mulN {a b : Nat} (ho : o.op = .binOp .mul t x y u) (hx : evM M x = some (.int .i64 (a : Int))) (hy : evM M y = some (.int .i64 (b : Int))) (h : a * b ≤ 9223372036854775807) : Runs P n D M o w (.value (.int .i64 ((a * b : Nat) : Int))) w := R.bin ho hx hy (I.mulN h)
theorem R.subN {a b : Nat} (ho : o.op = .binOp .sub t x y u) (hx : evM M x = some (.int .i64 (a : Int))) (hy : evM M y = some (.int .i64 (b : Int))) (h : b ≤ a) (h2 : a ≤ 9223372036854775807) : Runs P n D M o w (.value (.int .i64 ((a - b : Nat) : Int))) w := R.bin ho hx hy (I.subN h h2)
theorem R.quoN {a b : Nat} (ho : o.op = .binOp .quo t x y u) (hx : evM M x = some (.int .i64 (a : Int))) (hy : evM M y = some (.int .i64 (b : Int))) (h : 0 < b) (h2 : a ≤ 9223372036854775807) : Runs P n D M o w (.value (.int .i64 ((a / b : Nat) : Int))) w := R.bin ho hx hy (I.quoN h h2)
theorem R.remN {a b : Nat} (ho : o.op = .binOp .rem t x y u) (hx : evM M x = some (.int .i64 (a : Int))) (hy : evM M y = some (.int .i64 (b : Int))) (h : 0 < b) : Runs P n D M o w (.value (.int .i64 ((a % b : Nat) : Int))) w := R.bin ho hx hy (I.remN h)
theorem R.addI {a b : Int} (ho : o.op = .binOp .add t x y u) (hx : evM M x = some (.int .i64 a)) (hy : evM M y = some (.int .i64 b)) (h : -9223372036854775808 ≤ a + b ∧ a + b ≤ 9223372036854775807) : Runs P n D M o w (.value (.int .i64 (a + b))) w := R.bin ho hx hy (I.addI h)
theorem R.subI {a b : Int} (ho : o.op = .binOp .sub t x y u) (hx : evM M x = some (.int .i64 a)) (hy : evM M y = some (.int .i64 b)) (h : -9223372036854775808 ≤ a - b ∧ a - b ≤ 9223372036854775807) : Runs P n D M o w (.value (.int .i64 (a - b))) w := R.bin ho hx hy (I.subI h)
theorem R.mulI {a b : Int} (ho : o.op = .binOp .mul t x y u) (hx : evM M x = some (.int .i64 a)) (hy : evM M y = some (.int .i64 b)) (h : -9223372036854775808 ≤ a * b ∧ a * b ≤ 9223372036854775807) : Runs P n D M o w (.value (.int .i64 (a * b))) w := R.bin ho hx hy (I.mulI h)
theorem R.ltT {k : IntKind} {a b : Int} (ho : o.op = .binOp .lss t x y u) (hx : evM M x = some (.int k a)) (hy : evM M y = some (.int k b)) (h : a < b) : Runs P n D M o w (.value (.bool true)) w := R.bin ho hx hy (I.ltT h)
theorem R.ltF {k : IntKind} {a b : Int} (ho : o.op = .binOp .lss t x y u) (hx : evM M x = some (.int k a)) (hy : evM M y = some (.int k b)) (h : b ≤ a) : Runs P n D M o w (.value (.bool false)) w := R.bin ho hx hy (I.ltF h)
theorem R.leT {k : IntKind} {a b : Int} (ho : o.op = .binOp .leq t x y u) (hx : evM M x = some (.int k a)) (hy : evM M y = some (.int k b)) (h : a ≤ b) : Runs P n D M o w (.value (.bool true)) w := R.bin ho hx hy (I.leT h)
theorem R.leF {k : IntKind} {a b : Int} (ho : o.op = .binOp .leq t x y u) (hx : evM M x = some (.int k a)) (hy : evM M y = some (.int k b)) (h : b < a) : Runs P n D M o w (.value (.bool false)) w := R.bin ho hx hy (I.leF h)
theorem R.gtT {k : IntKind} {a b : Int} (ho : o.op = .binOp .gtr t x y u) (hx : evM M x = some (.int k a)) (hy : evM M y = some (.int k b)) (h : b < a) : Runs P n D M o w (.value (.bool true)) w := R.bin ho hx hy (I.gtT h)
theorem R.gtF {k : IntKind} {a b : Int} (ho : o.op = .binOp .gtr t x y u) (hx : evM M x = some (.int k a)) (hy : evM M y = some (.int k b)) (h : a ≤ b) : Runs P n D M o w (.value (.bool false)) w := R.bin ho hx hy (I.gtF h)
theorem R.geT {k : IntKind} {a b : Int} (ho : o.op = .binOp .geq t x y u) (hx : evM M x = some (.int k a)) (hy : evM M y = some (.int k b)) (h : b ≤ a) : Runs P n D M o w (.value (.bool true)) w := R.bin ho hx hy (I.geT h)
theorem R.geF {k : IntKind} {a b : Int} (ho : o.op = .binOp .geq t x y u) (hx : evM M x = some (.int k a)) (hy : evM M y = some (.int k b)) (h : a < b) : Runs P n D M o w (.value (.bool false)) w := R.bin ho hx hy (I.geF h)
theorem R.eqT {k : IntKind} {a b : Int} (ho : o.op = .binOp .eql t x y u) (hx : evM M x = some (.int k a)) (hy : evM M y = some (.int k b)) (h : a = b) : Runs P n D M o w (.value (.bool true)) w := R.bin ho hx hy (I.eqT h)
theorem R.eqF {k : IntKind} {a b : Int} (ho : o.op = .binOp .eql t x y u) (hx : evM M x = some (.int k a)) (hy : evM M y = some (.int k b)) (h : a ≠ b) : Runs P n D M o w (.value (.bool false)) w := R.bin ho hx hy (I.eqF h)
theorem R.neT {k : IntKind} {a b : Int} (ho : o.op = .binOp .neq t x y u) (hx : evM M x = some (.int k a)) (hy : evM M y = some (.int k b)) (h : a ≠ b) : Runs P n D M o w (.value (.bool true)) w := R.bin ho hx hy (I.neT h)
theorem R.neF {k : IntKind} {a b : Int} (ho : o.op = .binOp .neq t x y u) (hx : evM M x = some (.int k a)) (hy : evM M y = some (.int k b)) (h : a = b) : Runs P n D M o w (.value (.bool false)) w := R.bin ho hx hy (I.neF h)
theorem R.eqB {k : IntKind} {a b : Int} (ho : o.op = .binOp .eql t x y u) (hx : evM M x = some (.int k a)) (hy : evM M y = some (.int k b)) : Runs P n D M o w (.value (.bool (a == b))) w := R.bin ho hx hy (I.eqB)
theorem R.ltB {k : IntKind} {a b : Int} (ho : o.op = .binOp .lss t x y u) (hx : evM M x = some (.int k a)) (hy : evM M y = some (.int k b)) : Runs P n D M o w (.value (.bool (decide (a < b)))) w := R.bin ho hx hy (I.ltB)
theorem R.gtB {k : IntKind} {a b : Int} (ho : o.op = .binOp .gtr t x y u) (hx : evM M x = some (.int k a)) (hy : evM M y = some (.int k b)) : Runs P n D M o w (.value (.bool (decide (a > b)))) w := R.bin ho hx hy (I.gtB)
theorem R.not {b : Bool} (ho : o.op = .unOp .not t x) (hx : evM M x = some (.bool b)) : Runs P n D M o w (.value (.bool (!b))) w := R.un ho hx I.not
theorem R.convI {k j : IntKind} {m z : Int} (ho : o.op = .convert t u x) (hx : evM M x = some (.int j m)) (hs : intB P t = some j) (ht : intB P u = some k) (hz : k.wrap m = z) : Runs P n D M o w (.value (.int k z)) w := R.conv ho hx (by rw [I.conv hs ht, hz])
theorem R.len {xs : Array Operand} {ts : Array TypeId} {v : Value} {m : Nat} (ho : o.op = .call { callee := .builtin .len, args := xs, argTypes := ts }) (hx : evsM M xs.toList = some [v]) (ht : ts[0]? = some t) (h : lenB P t v = some m) : Runs P n D M o w (.value (.int .i64 (m : Int))) w := R.builtin ho hx fun _ => I.len ht h
/-- A variable's box: a new block. -/
theorem LL.box {r : Option Nat} {ops : Array Oper} {Q : Exit → Act → World → Prop} {rest : List Oper} {v : Value} (cs : List Value) (ho : o.op = .box t x) (hx : evM M x = some v) (hcs : v.cells = cs.toArray) (hd : dstB n o.dst = true) (hg : wantB ops M o.guard = some true)
    (k : ∀ w1 g, g = w.heap.size → RowL w1 g t cs → w1.heap.size = g + 1 → Below w.heap.size w w1 → LL r P ops Q n D (putM M o.dst (.pointer (some ⟨g, 0, none⟩))) rest w1) : LL r P ops Q n D M (o :: rest) w :=
  LL.val (R.box ho hx (run_box hcs)) hd (by rw [ho]; rfl) hg (k _ _ rfl (RowL.new w t cs) (by simp) (Below.alloc0 w _))
theorem LL.alloc {r : Option Nat} {ops : Array Oper} {Q : Exit → Act → World → Prop} {rest : List Oper} {v : Value} (cs : List Value) (ho : o.op = .alloc t) (hz : zeroB P t = some v) (hcs : v.cells = cs.toArray) (hd : dstB n o.dst = true) (hg : wantB ops M o.guard = some true)
    (k : ∀ w1 g, g = w.heap.size → RowL w1 g t cs → w1.heap.size = g + 1 → Below w.heap.size w w1 → LL r P ops Q n D (putM M o.dst (.pointer (some ⟨g, 0, none⟩))) rest w1) : LL r P ops Q n D M (o :: rest) w :=
  LL.val (R.alloc ho (run_alloc hz hcs)) hd (by rw [ho]; rfl) hg (k _ _ rfl (RowL.new w t cs) (by simp) (Below.alloc0 w _))
/-- A store of one cell into a row that is known. -/
theorem LL.store {r : Option Nat} {ops : Array Oper} {Q : Exit → Act → World → Prop} {rest : List Oper} {v : Value} {g off e : Nat} {xs : List Value} (ho : o.op = .store t x y) (hx : evM M x = some (.pointer (some ⟨g, off, none⟩))) (hy : evM M y = some v) (hz : szB P t = some 1) (hr : RowL w g e xs) (hl : off < xs.length) (h1 : v.oneCell' = true) (hcs : v.cells = #[v]) (hd : o.dst = none) (hg : wantB ops M o.guard = some true)
    (k : ∀ w1, RowL w1 g e (xs.set off v) → w.grownBy w1 (some g) → w1.heap.size = w.heap.size → LL r P ops Q n D M rest w1) : LL r P ops Q n D M (o :: rest) w :=
  LL.unit (R.store ho hx hy (I.st1R hz hr hl h1 hcs)) hd (by rw [ho]; rfl) hg (k _ (hr.set off v) (grown_set w _ v) (by simp [World.setCell]))
/-- A store of a whole value into a row that is known. -/
theorem LL.storeN {r : Option Nat} {ops : Array Oper} {Q : Exit → Act → World → Prop} {rest : List Oper} {vs : List Value} {g off e : Nat} {xs : List Value} (ho : o.op = .store t x y) (hx : evM M x = some (.pointer (some ⟨g, off, none⟩))) (hy : evM M y = some (.agg vs.toArray)) (hz : szB P t = some vs.length) (hr : RowL w g e xs) (hl : off + vs.length ≤ xs.length) (h1 : ∀ u ∈ vs, u.oneCell' = true) (hd : o.dst = none) (hg : wantB ops M o.guard = some true)
    (k : ∀ w1, RowL w1 g e (xs.take off ++ vs ++ xs.drop (off + vs.length)) → w.grownBy w1 (some g) → w1.heap.size = w.heap.size → LL r P ops Q n D M rest w1) : LL r P ops Q n D M (o :: rest) w := by
  obtain ⟨w1, h2, h3, h4, h5⟩ := I.stN (t := t) hz hr hl h1
  exact LL.unit (R.store ho hx hy h2) hd (by rw [ho]; rfl) hg (k _ h3 h4 h5)
theorem drew_row {w : World} {g e : Nat} {xs : List Value} (h : RowL w g e xs) : RowL w.drew g e xs := h
theorem below_drew {w : World} : Below w.heap.size w w.drew := (Below.refl _ w).drew
end

/-! Compared values that are no numbers. -/
section
variable {P : Program} {w : World} {o : Oper} {n : Nat} {D : List Deferred} {M : Slots} {x y : Operand} {t u : TypeId} {vx vy : Value}
def isPtr (P : Program) (t : TypeId) : Bool := match P.underlying t with | some (.pointer _) => true | _ => false
def isStr (P : Program) (t : TypeId) : Bool := match P.underlying t with | some .string => true | _ => false
def isBool (P : Program) (t : TypeId) : Bool := match P.underlying t with | some .bool => true | _ => false
def isSl (P : Program) (t : TypeId) : Bool := match P.underlying t with | some (.slice _) => true | _ => false
def isFn (P : Program) (t : TypeId) : Bool := match P.underlying t with | some (.func _ _ _) => true | _ => false
theorem equal_ptr_nil {a : Option Addr} (h : isPtr P t = true) : (Op.equal t (.pointer a) (.pointer none)).run P w = .ok a.isNone w := by
  unfold isPtr at h
  cases hu : P.underlying t with
  | none => rw [hu] at h; cases h
  | some d =>
    rw [hu] at h
    cases d <;> try (cases h; done)
    unfold Op.equal Op.maxDepth Op.equalIn
    cases a <;> simp [run_underlying hu]
theorem equal_sl_nil {a : Option Addr} {l c : Nat} (h : isSl P t = true) : (Op.equal t (.slice a l c) (.slice none 0 0)).run P w = .ok a.isNone w := by
  unfold isSl at h
  cases hu : P.underlying t with
  | none => rw [hu] at h; cases h
  | some d =>
    rw [hu] at h
    cases d <;> try (cases h; done)
    unfold Op.equal Op.maxDepth Op.equalIn
    cases a <;> simp [run_underlying hu]
theorem equal_fn_nil {f : Fn} {c1 c2 : Array Value} (h : isFn P t = true) : (Op.equal t (.func f c1 c2) .nilFunc).run P w = .ok false w := by
  unfold isFn at h
  cases hu : P.underlying t with
  | none => rw [hu] at h; cases h
  | some d =>
    rw [hu] at h
    cases d <;> try (cases h; done)
    unfold Op.equal Op.maxDepth Op.equalIn
    simp [run_underlying hu]
theorem equal_bool {a b : Bool} (h : isBool P t = true) : (Op.equal t (.bool a) (.bool b)).run P w = .ok (a == b) w := by
  unfold isBool at h
  cases hu : P.underlying t with
  | none => rw [hu] at h; cases h
  | some d =>
    rw [hu] at h
    cases d <;> try (cases h; done)
    unfold Op.equal Op.maxDepth Op.equalIn
    simp [run_underlying hu]
theorem I.eqOf {b : Bool} (hne : ∀ k a k' c, ¬ (vx = .int k a ∧ vy = .int k' c)) (hagg : ∀ c, vx ≠ .agg c) (h : (Op.equal t vx vy).run P w = .ok b w) (hk : (∃ p q, vx = .pointer p ∧ vy = .pointer q) ∨ (∃ a l c a' l' c', vx = .slice a l c ∧ vy = .slice a' l' c') ∨ (∃ f c1 c2, vx = .func f c1 c2 ∧ vy = .nilFunc) ∨ (∃ a b, vx = .bool a ∧ vy = .bool b)) :
    ((do eqGuard .eql t x y vx vy; binOp .eql t vx vy) : Sem Value).run P w = .ok (.bool b) w ∧ ((do eqGuard .neq t x y vx vy; binOp .neq t vx vy) : Sem Value).run P w = .ok (.bool (!b)) w := by
  rcases hk with ⟨p, q, rfl, rfl⟩ | ⟨a, l, c, a', l', c', rfl, rfl⟩ | ⟨f, c1, c2, rfl, rfl⟩ | ⟨a, b', rfl, rfl⟩ <;> (constructor <;> simp [eqGuard, binOp, h])
theorem R.eqPtr {a : Option Addr} {b : Bool} (ho : o.op = .binOp .eql t x y u) (hx : evM M x = some (.pointer a)) (hy : evM M y = some (.pointer none)) (h : isPtr P t = true) (hb : a.isNone = b) : Runs P n D M o w (.value (.bool b)) w :=
  R.bin ho hx hy (by rw [← hb]; exact (I.eqOf (by rintro _ _ _ _ ⟨h, _⟩; cases h) (by rintro _ h; cases h) (equal_ptr_nil h) (.inl ⟨_, _, rfl, rfl⟩)).1)
theorem R.nePtr {a : Option Addr} {b : Bool} (ho : o.op = .binOp .neq t x y u) (hx : evM M x = some (.pointer a)) (hy : evM M y = some (.pointer none)) (h : isPtr P t = true) (hb : (!a.isNone) = b) : Runs P n D M o w (.value (.bool b)) w :=
  R.bin ho hx hy (by rw [← hb]; exact (I.eqOf (by rintro _ _ _ _ ⟨h, _⟩; cases h) (by rintro _ h; cases h) (equal_ptr_nil h) (.inl ⟨_, _, rfl, rfl⟩)).2)
theorem R.eqSl {a : Option Addr} {l c : Nat} {b : Bool} (ho : o.op = .binOp .eql t x y u) (hx : evM M x = some (.slice a l c)) (hy : evM M y = some (.slice none 0 0)) (h : isSl P t = true) (hb : a.isNone = b) : Runs P n D M o w (.value (.bool b)) w :=
  R.bin ho hx hy (by rw [← hb]; exact (I.eqOf (by rintro _ _ _ _ ⟨h, _⟩; cases h) (by rintro _ h; cases h) (equal_sl_nil h) (.inr (.inl ⟨_, _, _, _, _, _, rfl, rfl⟩))).1)
theorem R.neSl {a : Option Addr} {l c : Nat} {b : Bool} (ho : o.op = .binOp .neq t x y u) (hx : evM M x = some (.slice a l c)) (hy : evM M y = some (.slice none 0 0)) (h : isSl P t = true) (hb : (!a.isNone) = b) : Runs P n D M o w (.value (.bool b)) w :=
  R.bin ho hx hy (by rw [← hb]; exact (I.eqOf (by rintro _ _ _ _ ⟨h, _⟩; cases h) (by rintro _ h; cases h) (equal_sl_nil h) (.inr (.inl ⟨_, _, _, _, _, _, rfl, rfl⟩))).2)
theorem R.eqFn {f : Fn} {c1 c2 : Array Value} (ho : o.op = .binOp .eql t x y u) (hx : evM M x = some (.func f c1 c2)) (hy : evM M y = some .nilFunc) (h : isFn P t = true) : Runs P n D M o w (.value (.bool false)) w :=
  R.bin ho hx hy (I.eqOf (by rintro _ _ _ _ ⟨h, _⟩; cases h) (by rintro _ h; cases h) (equal_fn_nil h) (.inr (.inr (.inl ⟨_, _, _, rfl, rfl⟩)))).1
theorem R.eqBool {a c b : Bool} (ho : o.op = .binOp .eql t x y u) (hx : evM M x = some (.bool a)) (hy : evM M y = some (.bool c)) (h : isBool P t = true) (hb : (a == c) = b) : Runs P n D M o w (.value (.bool b)) w :=
  R.bin ho hx hy (by rw [← hb]; exact (I.eqOf (by rintro _ _ _ _ ⟨h, _⟩; cases h) (by rintro _ h; cases h) (equal_bool h) (.inr (.inr (.inr ⟨_, _, rfl, rfl⟩)))).1)
theorem R.neBool {a c b : Bool} (ho : o.op = .binOp .neq t x y u) (hx : evM M x = some (.bool a)) (hy : evM M y = some (.bool c)) (h : isBool P t = true) (hb : (!(a == c)) = b) : Runs P n D M o w (.value (.bool b)) w :=
  R.bin ho hx hy (by rw [← hb]; exact (I.eqOf (by rintro _ _ _ _ ⟨h, _⟩; cases h) (by rintro _ h; cases h) (equal_bool h) (.inr (.inr (.inr ⟨_, _, rfl, rfl⟩)))).2)
end

/-! Words. -/
section
variable {P : Program} {w : World} {o : Oper} {n : Nat} {D : List Deferred} {M : Slots} {x y : Operand} {t u : TypeId} {a b : Nat}
theorem R.xorU (ho : o.op = .binOp .xor t x y u) (hx : evM M x = some (.int .u64 (a : Int))) (hy : evM M y = some (.int .u64 (b : Int))) (ha : a < 18446744073709551616) (hb : b < 18446744073709551616) : Runs P n D M o w (.value (.int .u64 ((a ^^^ b : Nat) : Int))) w :=
  R.bin ho hx hy (by simp [go_sem, u64_xor_nat a b ha hb])
theorem R.andU (ho : o.op = .binOp .and t x y u) (hx : evM M x = some (.int .u64 (a : Int))) (hy : evM M y = some (.int .u64 (b : Int))) (ha : a < 18446744073709551616) (hb : b < 18446744073709551616) : Runs P n D M o w (.value (.int .u64 ((a &&& b : Nat) : Int))) w :=
  R.bin ho hx hy (by simp [go_sem, u64_and_nat a b ha hb])
theorem R.orU (ho : o.op = .binOp .or t x y u) (hx : evM M x = some (.int .u64 (a : Int))) (hy : evM M y = some (.int .u64 (b : Int))) (ha : a < 18446744073709551616) (hb : b < 18446744073709551616) : Runs P n D M o w (.value (.int .u64 ((a ||| b : Nat) : Int))) w :=
  R.bin ho hx hy (by simp [go_sem, u64_or_nat a b ha hb])
theorem R.addU {z : Nat} (ho : o.op = .binOp .add t x y u) (hx : evM M x = some (.int .u64 (a : Int))) (hy : evM M y = some (.int .u64 (b : Int))) (e : (a + b) % 18446744073709551616 = z) : Runs P n D M o w (.value (.int .u64 (z : Int))) w :=
  R.bin ho hx hy (by
    have f : IntKind.u64.wrap ((a : Int) + (b : Int)) = (z : Int) := by rw [IntKind.wrap_u64, ← e]; omega
    simp [go_sem, f])
theorem R.mulUN (ho : o.op = .binOp .mul t x y u) (hx : evM M x = some (.int .u64 (a : Int))) (hy : evM M y = some (.int .u64 (b : Int))) (e : a * b < 18446744073709551616) : Runs P n D M o w (.value (.int .u64 ((a * b : Nat) : Int))) w :=
  R.bin ho hx hy (by
    have f : IntKind.u64.wrap ((a : Int) * (b : Int)) = ((a * b : Nat) : Int) := by rw [IntKind.wrap_u64, ← Int.natCast_mul]; omega
    simp [go_sem, f])
theorem R.addUN (ho : o.op = .binOp .add t x y u) (hx : evM M x = some (.int .u64 (a : Int))) (hy : evM M y = some (.int .u64 (b : Int))) (e : a + b < 18446744073709551616) : Runs P n D M o w (.value (.int .u64 ((a + b : Nat) : Int))) w :=
  R.addU ho hx hy (Nat.mod_eq_of_lt e)
end
theorem R.buildV {P : Program} {w : World} {o : Oper} {n : Nat} {D : List Deferred} {M : Slots} {t : TypeId} {ps : Array (Nat × Operand)} {vs : List (Nat × Value)} {v : Value} (ho : o.op = .build t ps) (hx : evpM M ps.toList = some vs) (hr : ∀ w, (Instr.build t vs.toArray).run P w = .ok v w) : Runs P n D M o w (.value v) w := R.build' ho hx (hr w)
theorem run_build {P : Program} {w : World} {t : TypeId} {vs : Array (Nat × Value)} {v : Value} (h : ∀ w, (Instr.build t vs).run P w = .ok v w) : (Instr.build t vs).run P w = .ok v w := h w

/-! With a constant. -/
section
variable {P : Program} {w : World} {o : Oper} {n : Nat} {D : List Deferred} {M : Slots} {x y : Operand} {t u : TypeId} {a b : Nat}
theorem R.addNc (hlit : Nat.ble b 18446744073709551616 = true) (ho : o.op = .binOp .add t x y u) (hx : evM M x = some (.int .i64 (a : Int))) (hy : evM M y = some (.int .i64 (@OfNat.ofNat Int b instOfNat))) (h : a + (@OfNat.ofNat Nat b (instOfNatNat b)) ≤ 9223372036854775807) : Runs P n D M o w (.value (.int .i64 ((a + (@OfNat.ofNat Nat b (instOfNatNat b)) : Nat) : Int))) w := R.addN (b := b) ho hx hy h
theorem R.subNc (hlit : Nat.ble b 18446744073709551616 = true) (ho : o.op = .binOp .sub t x y u) (hx : evM M x = some (.int .i64 (a : Int))) (hy : evM M y = some (.int .i64 (@OfNat.ofNat Int b instOfNat))) (h : (@OfNat.ofNat Nat b (instOfNatNat b)) ≤ a) (h2 : a ≤ 9223372036854775807) : Runs P n D M o w (.value (.int .i64 ((a - (@OfNat.ofNat Nat b (instOfNatNat b)) : Nat) : Int))) w := R.subN (b := b) ho hx hy h h2
theorem R.mulNc (hlit : Nat.ble b 18446744073709551616 = true) (ho : o.op = .binOp .mul t x y u) (hx : evM M x = some (.int .i64 (a : Int))) (hy : evM M y = some (.int .i64 (@OfNat.ofNat Int b instOfNat))) (h : a * (@OfNat.ofNat Nat b (instOfNatNat b)) ≤ 9223372036854775807) : Runs P n D M o w (.value (.int .i64 ((a * (@OfNat.ofNat Nat b (instOfNatNat b)) : Nat) : Int))) w := R.mulN (b := b) ho hx hy h
theorem R.quoNc (hlit : Nat.ble b 18446744073709551616 = true) (ho : o.op = .binOp .quo t x y u) (hx : evM M x = some (.int .i64 (a : Int))) (hy : evM M y = some (.int .i64 (@OfNat.ofNat Int b instOfNat))) (h : 0 < (@OfNat.ofNat Nat b (instOfNatNat b))) (h2 : a ≤ 9223372036854775807) : Runs P n D M o w (.value (.int .i64 ((a / (@OfNat.ofNat Nat b (instOfNatNat b)) : Nat) : Int))) w := R.quoN (b := b) ho hx hy h h2
theorem R.remNc (hlit : Nat.ble b 18446744073709551616 = true) (ho : o.op = .binOp .rem t x y u) (hx : evM M x = some (.int .i64 (a : Int))) (hy : evM M y = some (.int .i64 (@OfNat.ofNat Int b instOfNat))) (h : 0 < (@OfNat.ofNat Nat b (instOfNatNat b))) : Runs P n D M o w (.value (.int .i64 ((a % (@OfNat.ofNat Nat b (instOfNatNat b)) : Nat) : Int))) w := R.remN (b := b) ho hx hy h
theorem R.mulcN (hlit : Nat.ble a 18446744073709551616 = true) (ho : o.op = .binOp .mul t x y u) (hx : evM M x = some (.int .i64 (@OfNat.ofNat Int a instOfNat))) (hy : evM M y = some (.int .i64 (b : Int))) (h : (@OfNat.ofNat Nat a (instOfNatNat a)) * b ≤ 9223372036854775807) : Runs P n D M o w (.value (.int .i64 (((@OfNat.ofNat Nat a (instOfNatNat a)) * b : Nat) : Int))) w := R.mulN (a := a) ho hx hy h
theorem R.subcN (hlit : Nat.ble a 18446744073709551616 = true) (ho : o.op = .binOp .sub t x y u) (hx : evM M x = some (.int .i64 (@OfNat.ofNat Int a instOfNat))) (hy : evM M y = some (.int .i64 (b : Int))) (h : b ≤ (@OfNat.ofNat Nat a (instOfNatNat a))) (h2 : (@OfNat.ofNat Nat a (instOfNatNat a)) ≤ 9223372036854775807) : Runs P n D M o w (.value (.int .i64 (((@OfNat.ofNat Nat a (instOfNatNat a)) - b : Nat) : Int))) w := R.subN (a := a) ho hx hy h h2
theorem I.ixA1c {m bl off i : Nat} (hlit : Nat.ble i 18446744073709551616 = true) (h : arB P t = some (m, 1)) (hi : (@OfNat.ofNat Nat i (instOfNatNat i)) < m) : (Instr.indexAt t (.pointer (some ⟨bl, off, none⟩)) (.int .i64 (@OfNat.ofNat Int i instOfNat))).run P w = .ok (.pointer (some ⟨bl, off + (@OfNat.ofNat Nat i (instOfNatNat i)), none⟩)) w := I.ixA1 (i := i) h hi
theorem I.ixAc {m k bl off i : Nat} (hlit : Nat.ble i 18446744073709551616 = true) (h : arB P t = some (m, k)) (hi : (@OfNat.ofNat Nat i (instOfNatNat i)) < m) : (Instr.indexAt t (.pointer (some ⟨bl, off, none⟩)) (.int .i64 (@OfNat.ofNat Int i instOfNat))).run P w = .ok (.pointer (some ⟨bl, off + (@OfNat.ofNat Nat i (instOfNatNat i)) * k, none⟩)) w := I.ixA (i := i) h hi
theorem I.ixS1c {e bl off len cap i : Nat} (hlit : Nat.ble i 18446744073709551616 = true) (h : slB P t = some (e, 1)) (hi : (@OfNat.ofNat Nat i (instOfNatNat i)) < len) : (Instr.indexAt t (.slice (some ⟨bl, off, none⟩) len cap) (.int .i64 (@OfNat.ofNat Int i instOfNat))).run P w = .ok (.pointer (some ⟨bl, off + (@OfNat.ofNat Nat i (instOfNatNat i)), none⟩)) w := I.ixS1 (i := i) h hi
theorem I.ixSc {e k bl off len cap i : Nat} (hlit : Nat.ble i 18446744073709551616 = true) (h : slB P t = some (e, k)) (hi : (@OfNat.ofNat Nat i (instOfNatNat i)) < len) : (Instr.indexAt t (.slice (some ⟨bl, off, none⟩) len cap) (.int .i64 (@OfNat.ofNat Int i instOfNat))).run P w = .ok (.pointer (some ⟨bl, off + (@OfNat.ofNat Nat i (instOfNatNat i)) * k, none⟩)) w := I.ixS (i := i) h hi
end

/-! Slices that the call makes. -/
section
variable {P : Program} {w : World} {o : Oper} {n : Nat} {D : List Deferred} {M : Slots} {t T e : TypeId} {z : Value} {bytes : Nat} {r : Option Nat} {ops : Array Oper} {Q : Exit → Act → World → Prop} {rest : List Oper}
/-- A literal. -/
theorem LL.lit {ps : Array (Nat × Operand)} {k : Nat} {vs : List (Nat × Value)} (cs : List Value) (len : Nat) (ho : o.op = .buildSlice t k ps) (hx : evpM M ps.toList = some vs) (hr : ∀ w, (Instr.buildSlice t k vs.toArray).run P w = .ok (.slice (some ⟨w.heap.size, 0, none⟩) len len) (w.alloc (.cells cs.toArray e))) (hd : dstB n o.dst = true) (hg : wantB ops M o.guard = some true)
    (k : ∀ w1 g, g = w.heap.size → RowL w1 g e cs → w1.heap.size = g + 1 → Below w.heap.size w w1 → LL r P ops Q n D (putM M o.dst (.slice (some ⟨g, 0, none⟩) len len)) rest w1) : LL r P ops Q n D M (o :: rest) w :=
  LL.val (R.buildSlice ho hx (hr w)) hd (by rw [ho]; rfl) hg (k _ _ rfl (RowL.new w e cs) (by simp) (Below.alloc0 w _))
/-- append(s, x..) where the call owns s. -/
theorem LL.append {xs : Array Operand} {v vx : Value} {base m : Nat} {us ys : List Value} (ho : o.op = .call { callee := .builtin .append, args := xs, argTypes := #[T, T] }) (hx : evsM M xs.toList = some [v, vx]) (I : El P T e z bytes) (hown : w.ownsRow base e 1 v m us) (hr : Reads w vx ys) (hone : ∀ u ∈ ys, u.oneCell' = true)
    (h63 : m + ys.length ≤ maxLen) (hb : (m + ys.length) * bytes ≤ 140737488355328) (hbase : base ≤ w.heap.size) (hd : dstB n o.dst = true) (hg : wantB ops M o.guard = some true)
    (k : ∀ v' w', w'.ownsRow base e 1 v' (m + ys.length) (us ++ ys) → w.grownBy w' v.ownBlock → LL r P ops Q n D (putM M o.dst v') rest w') : LL r P ops Q n D M (o :: rest) w := by
  obtain ⟨v', w', h1, h2, h3⟩ := run_append_all I o.type hown hr hone h63 hb hbase
  refine LL.val (v := v') (R.builtin ho hx fun b => ?_) hd (by rw [ho]; rfl) hg (k v' w' h2 h3)
  unfold builtin
  simp only [Sem.run_bind, h1, Result.andThen_ok, Sem.run_pure]
theorem owns_bel {w w' : World} {base n : Nat} {v : Value} {xs : List Value} (h : w.ownsRow base e 1 v n xs) (hg : w.grownBy w' v.ownBlock) (hb : base ≤ w.heap.size) : Below base w w' :=
  (Below.refl base w).grown hg hb fun j ej => by
    rcases h.2 with ⟨rfl, _⟩ | ⟨g, cap, cur, rfl, hb, _, _⟩
    · simp [Value.ownBlock] at ej
    · obtain rfl : g = j := by simpa [Value.ownBlock] using ej
      exact hb
theorem LL.make {x y : Operand} {l m : Nat} (I : El P T e z bytes) (ho : o.op = .makeSlice T x y) (hx : evM M x = some (.int .i64 (l : Int))) (hy : evM M y = some (.int .i64 (m : Int))) (hl : l ≤ m) (hb : bytes * m ≤ 281474976710656) (hn : m ≤ 9223372036854775807) (hd : dstB n o.dst = true) (hg : wantB ops M o.guard = some true)
    (k : ∀ w1 g, g = w.heap.size → RowL w1 g e (List.replicate m z) → w1.heap.size = g + 1 → Below w.heap.size w w1 → LL r P ops Q n D (putM M o.dst (.slice (some ⟨g, 0, none⟩) l m)) rest w1) : LL r P ops Q n D M (o :: rest) w :=
  LL.val (R.make ho hx hy (run_mk I l m hl hb hn _ _ rfl rfl w)) hd (by rw [ho]; rfl) hg (k _ _ rfl (RowL.made w e z m) (by simp) (Below.alloc0 w _))
end

/-! Texts. -/
section
variable {P : Program} {w : World} {o : Oper} {n : Nat} {D : List Deferred} {M : Slots} {x y : Operand} {t u : TypeId} {a b : ByteArray}
theorem R.eqStr {c : Bool} (ho : o.op = .binOp .eql t x y u) (hx : evM M x = some (.string a)) (hy : evM M y = some (.string b)) (hc : (a.toList == b.toList) = c) : Runs P n D M o w (.value (.bool c)) w :=
  R.bin ho hx hy (by simp [eqGuard, binOp, Op.stringOp, ← hc])
theorem R.neStr {c : Bool} (ho : o.op = .binOp .neq t x y u) (hx : evM M x = some (.string a)) (hy : evM M y = some (.string b)) (hc : (!(a.toList == b.toList)) = c) : Runs P n D M o w (.value (.bool c)) w :=
  R.bin ho hx hy (by simp [eqGuard, binOp, Op.stringOp, ← hc])
end
def sl8B (P : Program) (t : TypeId) : Bool := match P.underlying t with
  | some (.slice e) => (match P.underlying e with | some (.int .u8) => true | _ => false)
  | _ => false
theorem run_toStr {P : Program} {s t : TypeId} {w : World} {v : Value} {bs : List Nat} (hs : sl8B P s = true) (ht : isStr P t = true) (h : Reads w v (ints .u8 bs)) : (convert s t v).run P w = .ok (.string (strB bs)) w := by
  unfold sl8B at hs
  unfold isStr at ht
  cases hu : P.underlying s with
  | none => rw [hu] at hs; cases hs
  | some d =>
    rw [hu] at hs
    cases d <;> try (cases hs; done)
    rename_i e
    simp only at hs
    cases he : P.underlying e with
    | none => rw [he] at hs; cases hs
    | some d2 =>
      rw [he] at hs
      cases d2 <;> try (cases hs; done)
      rename_i k
      cases k <;> try (cases hs; done)
      cases ht2 : P.underlying t with
      | none => rw [ht2] at ht; cases ht
      | some d3 =>
        rw [ht2] at ht
        cases d3 <;> try (cases ht; done)
        exact run_str hu he ht2 h
end Go.Proofs.Ytajfffoaebjnlaa
