/- What the statements' walks use: Pan, Map, Bs, CellE, Shelf, In1, In2, In3, B, C, V, Wd14, ConvB, Zeros, CopyR, In4, In5, In6, FreeP, In7, Far, In8, MapZ, In9. -/
import Derived.RecoverIn
import Derived.Laws.Build
import Derived.Maps.RangeRun
import Derived.Shelf.Small.Strs
import Derived.Shelf.Strings.Search1
import Derived.Test.YtnoefalgmekjbaaDoorProg
import Derived.WalkKit
import Derived.IntWalk
import Derived.Lib.Hide
import Derived.Deep.QuietTactic
import Derived.BigQuiet
import Derived.StillTailTactics
import Derived.Deep.RegionLaw
import Derived.Deep.AppendLies
import Derived.OneCell
import Derived.Lib.ConvBytes
import Derived.Lib.AppendZerosOnto
import Derived.Test.YtnoefalgmekjbaaDoorMha
import Derived.Test.YtnoefalgmekjbaaDoorMhb
/- Panics: calls that panic, functions that defer and recover, type assertions. Over any program. -/
namespace Go.Proofs.YtnoefalgmekjbaaDoor
set_option linter.unusedVariables false
set_option linter.unusedSimpArgs false
open Go.RowKit Go.Shelf

section
variable {P : Program} {ops : Array Oper} {w w' : World} {o : Oper} {rest : List Oper} {n : Nat} {D : List Deferred} {M : Slots} {v : Value} {r : Option Nat} {Q : Exit → Act → World → Prop}

/-- The chain of one panic. -/
abbrev chain1 (v : Value) : List PanicEntry := [{ v := v, recovered := false }]
/-- A call that panics. -/
theorem LL.callP {f : FuncId} {args : Array Value} {R : Ending → World → Prop} (hr : Runs P n D M o w (.enter f args) w) (hdf : dfB o.op = false) (hg : wantB ops M o.guard = some true) (hc : Calls P f args w R)
    (k : ∀ e w', R e w' → ∃ ch, e = .panicked ch ∧ EE Q n D M (.panic ch) w') : LL r P ops Q n D M (o :: rest) w := LL.mk fun a F => by
  refine wpListIn_step fun K hK => ?_
  rw [if_pos (F.want hg)]
  refine wpIn_of_run hdf (hr a F) ⟨fun h => (by cases h), callsWr (hc.mono fun e w' hR => ?_)⟩
  obtain ⟨ch, rfl, hk⟩ := k e w' hR
  exact hk.h _ F
/-- The text's own panic. -/
theorem LL.panic {x : Operand} {t : TypeId} (ho : o.op = .panic x) (hx : evM M x = some (.iface t v)) (hg : wantB ops M o.guard = some true) (k : EE Q n D M (.panic (chain1 (.iface t v))) w) : LL r P ops Q n D M (o :: rest) w := LL.mk fun a F => by
  refine wpListIn_step fun K hK => ?_
  rw [if_pos (F.want hg)]
  refine ⟨about_wr a, ?_⟩
  rw [Oper.semAt_eq _ _ _ (by intro c hc; rw [ho] at hc; cases hc)]
  have : (execOp a.eval o).run P w = .halt (.panic (.iface t v)) w := by
    unfold execOp
    rw [ho]
    simp only [F.ev hx]
    rfl
  rw [this]
  exact k.h _ F
theorem EE.thenP {K : Act → World → Prop} {ch : List PanicEntry} (h : EE Q n D M (.panic ch) w) : EE (Exit.then K Q) n D M (.panic ch) w := EE.mk fun a F => h.h a F
/-- A function that is left by a panic. -/
theorem EE.pan {fn : Func} {R : Ending → World → Prop} {ch : List PanicEntry} (h : R (.panicked ch) w) : EE (bodyPost P fn R) n [] M (.panic ch) w := EE.mk fun a F => ⟨F.defers, h⟩

/-- A function's contract from its body's walk: panics and deferred calls, too. -/
theorem X.fnP {f : FuncId} {fn : Func} {c : Code} {args : Array Value} {R : Ending → World → Prop} (hf : P.funcs[f]? = some fn) (hb : fn.body = some c) (hn : fn.ntmps = n) (ha : Nat.ble args.size n = true)
    (h : CC none P (bodyPostM Fence.wide 3 P fn R) n [] (argM args) c w) : Calls P f args w R := by
  subst hn
  exact (callsIn_wide (n := 3)).1 (callsIn_of_wp_marks hf hb trivial (h.h _ (Fr.start args _ (by simpa using ha))) rfl)
theorem EE.panM {fn : Func} {R : Ending → World → Prop} {ch : List PanicEntry} (h : R (.panicked ch) w) : EE (bodyPostM Fence.wide 3 P fn R) n [] M (.panic ch) w := EE.mk fun a F => by
  show LeavesInM _ _ _ _ _ _ a.defers _ _
  rw [F.defers]
  exact h
/-- A deferred call of a closure. -/
abbrev dfr (f : FuncId) (lb : List Value) : Deferred := { target := .fn (.func f) lb.toArray, args := #[] }
theorem LL.defer {c : Call} {x : Operand} {f : FuncId} {lb : List Value} (ho : o.op = .defer c) (hc : c.callee = .value x) (ha : c.args = #[]) (hx : evM M x = some (.func (.func f) #[] lb.toArray)) (hd : o.dst = none) (hg : wantB ops M o.guard = some true)
    (k : LL none P ops Q n (dfr f lb :: D) M rest w) : LL none P ops Q n D M (o :: rest) w := LL.mk fun a F => by
  refine wpListIn_step fun K hK => ?_
  rw [if_pos (F.want hg)]
  refine ⟨about_wr a, ?_⟩
  have : (execOp a.eval o).run P w = .ok (.defer (dfr f lb)) w := by
    unfold execOp
    rw [ho]
    simp only [resolve, hc, ha, F.ev hx, Deferred.ofValue]
    simp
  show o.uponIn _ _ _ _ _ _ ((Oper.semAt none a.eval o).run P w)
  rw [Oper.semAt_none, this, Oper.uponIn_defer, hd]
  refine hK _ _ (k.h _ ⟨F.size, ?_, F.get⟩)
  show dfr f lb :: a.defers = _
  rw [F.defers]
theorem leave_dfr {fn : Func} {R : Ending → World → Prop} {f : FuncId} {lb : List Value} {ds : List Deferred} {tm : Array Value} {u : FrameMode} {R2 : Ending → FrameMode → World → Prop} (eg : entB P f = true) (hu : u ≠ .run)
    (hc : CallsDIn Fence.wide 2 P f lb.toArray u w R2)
    (h : ∀ e u' w', R2 e u' w' → ∃ v, e = .returned v ∧ LeavesInM Fence.wide 3 P fn tm R ds (settle u') w') : LeavesInM Fence.wide 3 P fn tm R (dfr f lb :: ds) u w := by
  refine ⟨hu, .inr ⟨fun h => by simp [Fence.wide] at h, .func f, lb.toArray, f, lb.toArray, rfl, ?_, fun _ _ => trivial, ?_⟩⟩
  · have := ent_of eg lb.toArray w
    simpa [invoke] using this
  · refine ⟨hc.1, fun c cs hm hr => ?_⟩
    obtain ⟨e, u', w', fr, hR, rest⟩ := hc.2 c cs hm hr
    refine ⟨e, u', w', fr, ?_, rest⟩
    obtain ⟨v, rfl, hk⟩ := h e u' w' hR
    exact hk
/-- A function that returns with one deferred call; its result lies in cells, or not. -/
theorem EE.retD {fn : Func} {R : Ending → World → Prop} {f : FuncId} {lb : List Value} {x : ResultVar} {R2 : Ending → FrameMode → World → Prop} (eg : entB P f = true) (hc : CallsDIn Fence.wide 2 P f lb.toArray .returning w R2) (hx : fn.results = #[x])
    (h : ∀ e u' w', R2 e u' w' → (∃ v, e = .returned v) ∧ settle u' = .returning ∧ ∃ u, rv P w' M x u ∧ R (.returned u) w') : EE (bodyPostM Fence.wide 3 P fn R) n [dfr f lb] M .ret w := EE.mk fun a F => by
  show LeavesInM _ _ _ _ _ _ a.defers _ _
  rw [F.defers]
  refine leave_dfr eg (by simp) hc fun e u' w' hR => ?_
  obtain ⟨⟨v, rfl⟩, hs, u, hu, hR'⟩ := h e u' w' hR
  refine ⟨v, rfl, ?_⟩
  rw [hs]
  exact ⟨u, results1_run F hx hu, hR'⟩
/-- A function that panics with one deferred call, which recovers. -/
theorem EE.panD {fn : Func} {R : Ending → World → Prop} {f : FuncId} {lb : List Value} {x : ResultVar} {ch : List PanicEntry} {R2 : Ending → FrameMode → World → Prop} (eg : entB P f = true) (hc : CallsDIn Fence.wide 2 P f lb.toArray (.panicking ch) w R2) (hx : fn.results = #[x])
    (h : ∀ e u' w', R2 e u' w' → (∃ v, e = .returned v) ∧ settle u' = .returning ∧ ∃ u, rv P w' M x u ∧ R (.returned u) w') : EE (bodyPostM Fence.wide 3 P fn R) n [dfr f lb] M (.panic ch) w := EE.mk fun a F => by
  show LeavesInM _ _ _ _ _ _ a.defers _ _
  rw [F.defers]
  refine leave_dfr eg (by simp) hc fun e u' w' hR => ?_
  obtain ⟨⟨v, rfl⟩, hs, u, hu, hR'⟩ := h e u' w' hR
  refine ⟨v, rfl, ?_⟩
  rw [hs]
  exact ⟨u, results1_run F hx hu, hR'⟩
/-- What a deferred closure hands back and leaves, for the frame of whom it was deferred in mode u'. -/
def deferQ (P : Program) (fn : Func) (u' : FrameMode) (R : Ending → FrameMode → World → Prop) : Exit → Act → World → Prop := bodyPost P fn fun e w => R e u' w
/-- A deferred closure whose first region recovers into a slot; of the frame below the mode is u. -/
theorem X.recovers {f : FuncId} {fn : Func} {id : Nat} {c : Code} {o1 o2 : Oper} {d e : Tmp} {args : Array Value} {u u' : FrameMode} {v : Value} {R : Ending → FrameMode → World → Prop}
    (hf : P.funcs[f]? = some fn) (hb : fn.body = some (.seq (.region id #[o1, o2] false) c)) (hn : fn.ntmps = n) (ha : Nat.ble args.size n = true)
    (h1 : o1.op = .call { callee := .builtin .recover, args := #[], argTypes := #[] }) (d1 : o1.dst = some d) (g1 : o1.guard = none) (hd : Nat.blt d n = true)
    (h2 : o2.op = .assign (.tmp d)) (d2 : o2.dst = some e) (g2 : o2.guard = none) (he : Nat.blt e n = true)
    (hv : ∀ c₀ : Frame, c₀.mode = u → ∀ cs, (recoverD (c₀ :: cs) = some (v, { c₀ with mode := u' } :: cs)) ∨ (recoverD (c₀ :: cs) = none ∧ v = .nilIface ∧ u' = u))
    (h : CC none P (deferQ P fn u' R) n [] (up (up (argM args) d v) e v) c w) : CallsDIn Fence.wide 2 P f args u w R := by
  subst hn
  refine callsDIn_of_wpSIn hf hb trivial fun c₀ cs hu => ?_
  obtain ⟨A, hA⟩ : ∃ A : Act, { tmps := args ++ Array.replicate (fn.ntmps - args.size) undef, defers := [] } = A := ⟨_, rfl⟩
  have F : Fr fn.ntmps [] (argM args) A := by rw [← hA]; exact Fr.start args _ (by simpa using ha)
  rw [hA]
  refine wpSIn_seq (wpSIn_region ?_)
  have hr1 : (execOp A.eval o1).run P w = .ok .recover w := by
    unfold execOp
    rw [h1]
    simp [resolve, invoke, builtin]
  have hsz : (#[o1, o2] : Array Oper).size = 2 := rfl
  have e1 : Region.wanted o1 (yielded #[o1, o2] A.tmps) = true := by simp [Region.wanted, g1]
  have F1 : Fr fn.ntmps [] (up (argM args) d v) (A.put o1.dst v) := by
    have := F.put (some d) v (by simpa [dstB] using hd)
    rw [d1]
    exact this
  have hr2 : (execOp (A.put o1.dst v).eval o2).run P w = .ok (.value v) w := by
    unfold execOp
    rw [h2]
    have : (A.put o1.dst v).eval (.tmp d) = v := F1.ev (by show up _ d v d = _; simp [up, Nat.beq_refl])
    simp [this]
  have F2 : Fr fn.ntmps [] (up (up (argM args) d v) e v) ((A.put o1.dst v).put o2.dst v) := by
    have := F1.put (some e) v (by simpa [dstB] using he)
    rw [d2]
    exact this
  have done : ∀ cs', cs' = { c₀ with mode := u' } :: cs → Exit.thenS (c.wpSIn Fence.wide 2 P (bodyPostS P fn c₀ cs R)) (bodyPostS P fn c₀ cs R) .normal ((A.put o1.dst v).put o2.dst v) cs' w := by
    rintro cs' rfl
    refine wpSIn_of_wpIn rfl ?_
    have hw := (wpIn_wide (n := 2)).2 ((wpIn_wide (n := 3)).1 (h.h _ F2))
    refine wpIn_mono hw fun e a3 W hq => ?_
    cases e with
    | normal =>
      obtain ⟨q1, v1, q2, q3⟩ := hq
      exact ⟨q1, u', rfl, v1, q2, q3⟩
    | ret =>
      obtain ⟨q1, v1, q2, q3⟩ := hq
      exact ⟨q1, u', rfl, v1, q2, q3⟩
    | panic ch =>
      obtain ⟨q1, q2⟩ := hq
      exact ⟨q1, u', rfl, q2⟩
    | outgrown => exact ⟨u', hq⟩
    | exit id => exact hq
    | goto l => exact hq
  show wpOpsSIn Fence.wide 2 P #[o1, o2] _ [0, 1] A (c₀ :: cs) w
  unfold wpOpsSIn
  simp only [List.getElem?_toArray, List.getElem?_cons_zero]
  refine ⟨fun _ _ => trivial, ?_⟩
  rw [if_pos e1, hr1]
  have e2 : ∀ x, Region.wanted o2 (yielded #[o1, o2] x) = true := fun x => by simp [Region.wanted, g2]
  have tail : ∀ cs', cs' = { c₀ with mode := u' } :: cs → wpOpsSIn Fence.wide 2 P #[o1, o2] (Exit.thenS (c.wpSIn Fence.wide 2 P (bodyPostS P fn c₀ cs R)) (bodyPostS P fn c₀ cs R)) [1] (A.put o1.dst v) cs' w := by
    intro cs' hcs
    unfold wpOpsSIn
    simp only [List.getElem?_toArray, List.getElem?_cons_succ, List.getElem?_cons_zero]
    refine ⟨fun _ _ => trivial, ?_⟩
    rw [if_pos (e2 _), hr2]
    exact done cs' hcs
  rcases hv c₀ hu cs with h' | ⟨h', rfl, rfl⟩
  · simp only [h']
    exact tail _ rfl
  · simp only [h']
    exact tail _ (by subst hu; rfl)
theorem recover_calm (c₀ : Frame) (h : c₀.mode = .returning) (cs : List Frame) : (recoverD (c₀ :: cs) = some (Value.nilIface, { c₀ with mode := .returning } :: cs)) ∨ (recoverD (c₀ :: cs) = none ∧ Value.nilIface = .nilIface ∧ FrameMode.returning = .returning) := .inr ⟨by simp [recoverD, h], rfl, rfl⟩
theorem recover_one (x : Value) (c₀ : Frame) (h : c₀.mode = .panicking (chain1 x)) (cs : List Frame) : (recoverD (c₀ :: cs) = some (x, { c₀ with mode := .panicking [{ v := x, recovered := true }] } :: cs)) ∨ (recoverD (c₀ :: cs) = none ∧ x = .nilIface ∧ FrameMode.panicking [{ v := x, recovered := true }] = .panicking (chain1 x)) := .inl (by simp [recoverD, h])
/-- Interfaces. -/
def ifaceB (P : Program) (t : TypeId) : Bool := match P.underlying t with
  | some (.interface _) => true
  | _ => false
def plainB (P : Program) (t : TypeId) : Bool := match P.underlying t with
  | some (.interface _) => false
  | some _ => true
  | none => false
theorem R.mkIface {t : TypeId} {x : Operand} (ho : o.op = .makeInterface t x) (hx : evM M x = some v) (hc : P.concrete t = true) : Runs P n D M o w (.value (.iface t v)) w := fun a F => by
  unfold execOp
  rw [ho]
  simp only [F.ev hx, Sem.run_bind, run_makeInterface w t v hc, Result.andThen_ok, Sem.run_pure]
theorem R.assertT {x : Operand} {xt t : TypeId} (ho : o.op = .typeAssert x xt t true) (hx : evM M x = some (.iface t v)) (hc : plainB P t = true) : Runs P n D M o w (.value (.tuple #[v, .bool true])) w := fun a F => by
  unfold execOp
  rw [ho]
  obtain ⟨ty, hu⟩ : ∃ ty, P.underlying t = some ty := by
    unfold plainB at hc
    cases h : P.underlying t with
    | none => rw [h] at hc; cases hc
    | some ty => exact ⟨ty, rfl⟩
  have hni : ∀ ms, ty ≠ .interface ms := by
    rintro ms rfl
    unfold plainB at hc
    rw [hu] at hc
    cases hc
  have key : (Instr.typeAssert (.iface t v) xt t true).run P w = .ok (.tuple #[v, .bool true]) w := by
    unfold Instr.typeAssert
    simp only [Sem.run_bind, run_underlying hu, Result.andThen_ok]
    split <;> first | exact absurd rfl (hni _) | simp_all
  simp only [F.ev hx, Sem.run_bind, key, Result.andThen_ok, Sem.run_pure]
theorem equal_if_nil {t tt : TypeId} (h : ifaceB P t = true) : (Op.equal t (.iface tt v) .nilIface).run P w = .ok false w ∧ (Op.equal t .nilIface .nilIface).run P w = .ok true w := by
  unfold ifaceB at h
  cases hu : P.underlying t with
  | none => rw [hu] at h; cases h
  | some d =>
    rw [hu] at h
    cases d <;> try (cases h; done)
    unfold Op.equal Op.maxDepth Op.equalIn
    simp [run_underlying hu]
theorem R.neNilI {x y : Operand} {t u : TypeId} {tt : TypeId} (ho : o.op = .binOp .neq t x y u) (hx : evM M x = some (.iface tt v)) (hy : evM M y = some .nilIface) (h : ifaceB P t = true) : Runs P n D M o w (.value (.bool true)) w :=
  R.bin ho hx hy (by simp [eqGuard, binOp, (equal_if_nil (v := v) (tt := tt) (w := w) h).1])
theorem R.eqNilI {x : Operand} {t u : TypeId} (ho : o.op = .binOp .neq t x (.const .nilIface) u) (hx : evM M x = some .nilIface) (h : ifaceB P t = true) : Runs P n D M o w (.value (.bool false)) w :=
  R.bin ho hx rfl (by simp [eqGuard, binOp, (equal_if_nil (v := .nilIface) (tt := 0) (w := w) h).2])
end
set_option linter.unusedVariables false
set_option linter.unusedSimpArgs false
open Go.MapKept (Stamped IsKey)
/-- Block b is a map of n entries; f says what it has at a key. -/
def MapK {α β : Type} (d : TypeDesc) (ke : α → Value) (ve : β → Value) (w : World) (b n : Nat) (f : α → Option β) : Prop :=
  ∃ es clock, w.heap[b]? = some (.map es clock) ∧ Stamped es clock ∧ es.size = n ∧ (∀ x ∈ es.toList, ∃ a v, x.key = ke a ∧ f a = some v ∧ x.val = ve v) ∧ ∀ a v, f a = some v → ∃ x ∈ es.toList, x.key = ke a ∧ x.val = ve v
/-- Keys that are plain. -/
structure KeyE {α : Type} (P : Program) (k : TypeId) (d : TypeDesc) (ke : α → Value) : Prop where
  under : P.underlying k = some d
  key : ∀ a, IsKey d (ke a)
  inj : ∀ a b, ke a = ke b → a = b
/-- The map with another thing at a key, or none. -/
def putMap {α β : Type} [DecidableEq α] (f : α → Option β) (a : α) (v : Option β) : α → Option β := fun x => if x = a then v else f x
section
variable {α β : Type} {d : TypeDesc} {ke : α → Value} {ve : β → Value} {w w' : World} {b n : Nat} {f : α → Option β} {P : Program} {k : TypeId}
theorem MapK.lt (h : MapK d ke ve w b n f) : b < w.heap.size := by
  obtain ⟨es, clock, hb, _⟩ := h
  exact (Array.getElem?_eq_some_iff.1 hb).1
theorem MapK.same (h : MapK d ke ve w b n f) (e : w'.heap[b]? = w.heap[b]?) : MapK d ke ve w' b n f := by
  obtain ⟨es, clock, hb, r⟩ := h
  exact ⟨es, clock, e.trans hb, r⟩
theorem MapK.up (h : MapK d ke ve w b n f) (hb : Below w.heap.size w w') : MapK d ke ve w' b n f := h.same (hb.block b h.lt)
theorem MapK.gr {r : Nat} (h : MapK d ke ve w b n f) (hg : w.grownBy w' (some r)) (hne : b ≠ r) : MapK d ke ve w' b n f := h.same (hg.block b h.lt (by simpa using hne))
theorem MapK.kept {K : Nat → Prop} (h : MapK d ke ve w b n f) (hk : Kept K w w') (hb : K b) : MapK d ke ve w' b n f := h.same (hk.block b hb)
theorem MapK.made (w : World) : MapK d ke ve (w.alloc (.map #[] 0)) w.heap.size 0 f ↔ (∀ a, f a = none) := by
  constructor
  · rintro ⟨es, clock, hb, _, h0, _, h2⟩ a
    cases hf : f a with
    | none => rfl
    | some v =>
      obtain ⟨x, hx, _⟩ := h2 a v hf
      have : es = #[] := Array.eq_empty_of_size_eq_zero h0
      subst this
      simp at hx
  · intro h
    exact ⟨#[], 0, (MapKept.heap_alloc w _).1, MapKept.stamped_empty 0, rfl, by simp, fun a v e => by rw [h a] at e; cases e⟩
theorem isKey_of (KE : KeyE P k d ke) {es : Array MapEntry} (h : ∀ x ∈ es.toList, ∃ a v, x.key = ke a ∧ f a = some v ∧ x.val = ve v) : ∀ x ∈ es.toList, IsKey d x.key := fun x hx => by
  obtain ⟨a, v, e, _⟩ := h x hx
  rw [e]
  exact KE.key a
/-- What is found at a key. -/
theorem findK (KE : KeyE P k d ke) {es : Array MapEntry} {clock : Nat} (hs : Stamped es clock) (h1 : ∀ x ∈ es.toList, ∃ a v, x.key = ke a ∧ f a = some v ∧ x.val = ve v) (h2 : ∀ a v, f a = some v → ∃ x ∈ es.toList, x.key = ke a ∧ x.val = ve v) (a : α) :
    (f a = none ∧ Instr.findNow d (ke a) es.toList 0 = some none ∧ ∀ x ∈ es.toList, x.key ≠ ke a) ∨ ∃ v j e, f a = some v ∧ Instr.findNow d (ke a) es.toList 0 = some (some (j, ve v)) ∧ es.toList[j]? = some e ∧ e.key = ke a ∧ e.val = ve v := by
  rcases MapKept.findNow_spec (KE.key a) es.toList 0 (isKey_of KE h1) with ⟨h3, h4⟩ | ⟨j, e, h3, h4, h5⟩
  · left
    refine ⟨?_, h3, h4⟩
    cases hf : f a with
    | none => rfl
    | some v =>
      obtain ⟨x, hx, e, _⟩ := h2 a v hf
      exact absurd e (h4 x hx)
  · right
    obtain ⟨a', v, e1, e2, e3⟩ := h1 e (List.mem_of_getElem? h4)
    have : a' = a := KE.inj _ _ (by rw [← e1, h5])
    subst this
    exact ⟨v, j, e, e2, by rw [h3, e3, Nat.zero_add], h4, h5, e3⟩
/-- The value at a key, or z. -/
def atK (ve : β → Value) (z : Value) : Option β → Value
  | some v => ve v
  | none => z
theorem I.look (KE : KeyE P k d ke) {t e : TypeId} {z : Value} (ht : P.underlying t = some (.map k e)) (hz : zeroB P e = some z) (h : MapK d ke ve w b n f) (a : α) (c : Bool) :
    (Instr.lookup t (.map (some b)) (ke a) c).run P w = .ok (if c then .tuple #[atK ve z (f a), .bool (f a).isSome] else atK ve z (f a)) w := by
  obtain ⟨es, clock, hb, hs, _, h1, h2⟩ := h
  rcases findK KE hs h1 h2 a with ⟨hf, hn, _⟩ | ⟨v, j, e, hf, hn, _⟩
  · simp [Instr.lookup, run_underlying ht, MapKept.run_getObj_map hb, MapKept.run_checkKey KE.under (KE.key a), MapKept.run_findKey KE.under hn, zero_of hz, Result.andThen, hf, atK]
  · simp [Instr.lookup, run_underlying ht, MapKept.run_getObj_map hb, MapKept.run_checkKey KE.under (KE.key a), MapKept.run_findKey KE.under hn, Result.andThen, hf, atK]
theorem set_grown {o o' : Obj} (hb : w.heap[b]? = some o) : w.grownBy { w with heap := w.heap.setIfInBounds b o' } (some b) :=
  ⟨rfl, rfl, rfl, by simp, fun i _ hi => (MapKept.heap_set hb).2 i (fun e => hi (by rw [e]))⟩
variable [DecidableEq α]
/-- m[k] = v. -/
theorem I.mput (KE : KeyE P k d ke) {t e : TypeId} (ht : P.underlying t = some (.map k e)) (h : MapK d ke ve w b n f) (a : α) (v : β) :
    ∃ w', (Instr.mapUpdate t (.map (some b)) (ke a) (ve v)).run P w = .ok () w' ∧ MapK d ke ve w' b (if (f a).isSome then n else n + 1) (putMap f a (some v)) ∧ w.grownBy w' (some b) ∧ w'.heap.size = w.heap.size := by
  obtain ⟨es, clock, hb, hs, hn, h1, h2⟩ := h
  rcases findK KE hs h1 h2 a with ⟨hf, hnow, hno⟩ | ⟨u, j, e0, hf, hnow, hj, hk0, hv0⟩
  · refine ⟨{ w with heap := w.heap.setIfInBounds b (.map (es.push { key := ke a, val := ve v, born := clock }) (clock + 1)) }, ?_, ⟨_, _, (MapKept.heap_set hb).1, MapKept.stamped_push hs hno, by simp [hf, hn], ?_, ?_⟩, set_grown hb, by simp⟩
    · simp [Instr.mapUpdate, run_underlying ht, MapKept.run_getObj_map hb, MapKept.run_checkKey KE.under (KE.key a), MapKept.run_findKey KE.under hnow, MapKept.run_setObj_map _ hb, Result.andThen]
    · intro x hx
      simp only [Array.toList_push, List.mem_append, List.mem_singleton] at hx
      rcases hx with hx | rfl
      · obtain ⟨a', v', e1, e2, e3⟩ := h1 x hx
        refine ⟨a', v', e1, ?_, e3⟩
        unfold putMap
        rw [if_neg, e2]
        rintro rfl
        rw [hf] at e2
        cases e2
      · exact ⟨a, v, rfl, by simp [putMap], rfl⟩
    · intro a' v' h
      unfold putMap at h
      split at h
      · rename_i e
        subst e
        cases h
        exact ⟨{ key := ke a', val := ve v, born := clock }, by simp, rfl, rfl⟩
      · obtain ⟨x, hx, e1, e2⟩ := h2 a' v' h
        exact ⟨x, by simp only [Array.toList_push, List.mem_append]; exact .inl hx, e1, e2⟩
  · have hj' : es[j]? = some e0 := by simpa using hj
    have hkey : ∀ e', es[j]? = some e' → ({ e' with key := ke a, val := ve v } : MapEntry).key = e'.key := fun e' he' => by rw [hj'] at he'; cases he'; exact hk0.symm
    have hlist : (es.modify j (fun e' => { e' with key := ke a, val := ve v })).toList = es.toList.set j { e0 with key := ke a, val := ve v } := by
      rw [Array.toList_modify]
      refine List.ext_getElem? fun i => ?_
      rw [List.getElem?_modify, List.getElem?_set]
      by_cases hi : j = i
      · subst hi
        have hl : j < es.size := by simpa using (List.getElem?_eq_some_iff.1 hj).1
        rw [hj]
        simp [hl]
      · simp [hi]
    refine ⟨{ w with heap := w.heap.setIfInBounds b (.map (es.modify j fun e' => { e' with key := ke a, val := ve v }) clock) }, ?_, ⟨_, _, (MapKept.heap_set hb).1, MapKept.stamped_modify hs _ _ (fun _ _ => rfl) (fun e' _ he' => hkey e' he'), by simp [hf, hn], ?_, ?_⟩, set_grown hb, by simp⟩
    · simp [Instr.mapUpdate, run_underlying ht, MapKept.run_getObj_map hb, MapKept.run_checkKey KE.under (KE.key a), MapKept.run_findKey KE.under hnow, hj', hk0, MapKept.run_keyThatStays (KE.key a), MapKept.run_setObj_map _ hb, Result.andThen]
    · intro x hx
      rw [hlist] at hx
      obtain ⟨i, hi⟩ := List.getElem?_of_mem hx
      rw [List.getElem?_set] at hi
      split at hi
      · split at hi
        · cases hi
          exact ⟨a, v, rfl, by simp [putMap], rfl⟩
        · cases hi
      · rename_i hne
        have hx0 := List.mem_of_getElem? hi
        obtain ⟨a', v', e1, e2, e3⟩ := h1 x hx0
        refine ⟨a', v', e1, ?_, e3⟩
        unfold putMap
        rw [if_neg, e2]
        rintro rfl
        have hpw := ((MapKept.stamped_iff es clock).1 hs).2.2
        have hll := (List.getElem?_eq_some_iff.1 hj).1
        have hil := (List.getElem?_eq_some_iff.1 hi).1
        have e4 := (List.getElem?_eq_some_iff.1 hj).2
        have e5 := (List.getElem?_eq_some_iff.1 hi).2
        rcases Nat.lt_or_ge i j with hlt | hge
        · have := List.pairwise_iff_getElem.1 hpw i j hil hll hlt
          rw [e4, e5, hk0, e1] at this
          exact this rfl
        · have := List.pairwise_iff_getElem.1 hpw j i hll hil (by omega)
          rw [e4, e5, hk0, e1] at this
          exact this rfl
    · intro a' v' h
      rw [hlist]
      have hll : j < es.size := by simpa using (List.getElem?_eq_some_iff.1 hj).1
      unfold putMap at h
      split at h
      · rename_i e
        subst e
        cases h
        exact ⟨{ e0 with key := ke a', val := ve v }, List.mem_iff_getElem?.2 ⟨j, by rw [List.getElem?_set]; simp [hll]⟩, rfl, rfl⟩
      · rename_i hne
        obtain ⟨x, hx, e1, e2⟩ := h2 a' v' h
        obtain ⟨i, hi⟩ := List.getElem?_of_mem hx
        refine ⟨x, List.mem_iff_getElem?.2 ⟨i, ?_⟩, e1, e2⟩
        rw [List.getElem?_set, if_neg, hi]
        rintro rfl
        rw [hj] at hi
        cases hi
        exact hne (KE.inj _ _ (by rw [← e1, hk0]))
end
section
variable {α β : Type} {d : TypeDesc} {ke : α → Value} {ve : β → Value} {w w' : World} {b b' n n' : Nat} {f : α → Option β}
/-- What a map has says how many entries it has. -/
theorem MapK.many (h : MapK d ke ve w b n f) (h' : MapK d ke ve w' b' n' f) : n = n' := by
  obtain ⟨es, clock, _, hs, hn, h1, h2⟩ := h
  obtain ⟨es', clock', _, hs', hn', h1', h2'⟩ := h'
  have key : ∀ (es : Array MapEntry), (∀ x ∈ es.toList, ∃ a v, x.key = ke a ∧ f a = some v ∧ x.val = ve v) → (∀ a v, f a = some v → ∃ x ∈ es.toList, x.key = ke a ∧ x.val = ve v) → ∀ k, k ∈ es.toList.map (·.key) ↔ ∃ a v, k = ke a ∧ f a = some v := fun es h1 h2 k => by
    constructor
    · intro h
      obtain ⟨x, hx, rfl⟩ := List.mem_map.1 h
      obtain ⟨a, v, e, e2, _⟩ := h1 x hx
      exact ⟨a, v, e, e2⟩
    · rintro ⟨a, v, rfl, e⟩
      obtain ⟨x, hx, e2, _⟩ := h2 a v e
      exact List.mem_map.2 ⟨x, hx, e2⟩
  have hp := (List.perm_ext_iff_of_nodup hs.2.2 hs'.2.2).2 fun k => (key es h1 h2 k).trans (key es' h1' h2' k).symm
  have := hp.length_eq
  simp only [List.length_map, Array.length_toList] at this
  omega
end
def RangeK {α β : Type} (d : TypeDesc) (ke : α → Value) (ve : β → Value) (w : World) (b r n : Nat) (f : α → Option β) (left : α → Prop) (cnt : Nat) : Prop :=
  ∃ es clock since seen c0, w.heap[b]? = some (.map es clock) ∧ Stamped es clock ∧ es.size = n ∧ (∀ x ∈ es.toList, ∃ a v, x.key = ke a ∧ f a = some v ∧ x.val = ve v) ∧ (∀ a v, f a = some v → ∃ x ∈ es.toList, x.key = ke a ∧ x.val = ve v) ∧
    w.heap[r]? = some (.mapIter (some b) since seen c0) ∧ (∀ x ∈ es.toList, x.born < since) ∧ (leftOf es seen).size = cnt ∧ (∀ x ∈ es.toList, ∀ a, x.key = ke a → (left a ↔ seen.contains x.born = false)) ∧ (∀ a, left a → f a ≠ none) ∧ since ≤ c0 ∧ since ≤ clock
section
variable {α β : Type} {d : TypeDesc} {ke : α → Value} {ve : β → Value} {w w' : World} {b r n cnt : Nat} {f : α → Option β} {left : α → Prop} {P : Program} {k : TypeId}
theorem RangeK.map (h : RangeK d ke ve w b r n f left cnt) : MapK d ke ve w b n f := by
  obtain ⟨es, clock, since, seen, c0, hb, hs, hn, h1, h2, _⟩ := h
  exact ⟨es, clock, hb, hs, hn, h1, h2⟩
theorem RangeK.lt (h : RangeK d ke ve w b r n f left cnt) : r < w.heap.size := by
  obtain ⟨es, clock, since, seen, c0, _, _, _, _, _, hr, _⟩ := h
  exact (Array.getElem?_eq_some_iff.1 hr).1
theorem RangeK.same (h : RangeK d ke ve w b r n f left cnt) (e1 : w'.heap[b]? = w.heap[b]?) (e2 : w'.heap[r]? = w.heap[r]?) : RangeK d ke ve w' b r n f left cnt := by
  obtain ⟨es, clock, since, seen, c0, hb, hs, hn, h1, h2, hr, rest⟩ := h
  exact ⟨es, clock, since, seen, c0, e1.trans hb, hs, hn, h1, h2, e2.trans hr, rest⟩
theorem RangeK.up (h : RangeK d ke ve w b r n f left cnt) (hb : Below w.heap.size w w') : RangeK d ke ve w' b r n f left cnt := h.same (hb.block b h.map.lt) (hb.block r h.lt)
theorem RangeK.gr {g : Nat} (h : RangeK d ke ve w b r n f left cnt) (hg : w.grownBy w' (some g)) (hne : b ≠ g ∧ r ≠ g) : RangeK d ke ve w' b r n f left cnt := h.same (hg.block b h.map.lt (by simpa using hne.1)) (hg.block r h.lt (by simpa using hne.2))
end
section
variable {α β : Type} {d : TypeDesc} {ke : α → Value} {ve : β → Value} {w : World} {b n : Nat} {f : α → Option β} {P : Program} {k t e : TypeId} {o : Oper} {N : Nat} {D : List Deferred} {M : Slots} {x y : Operand} {r : Option Nat} {ops : Array Oper} {Q : Exit → Act → World → Prop} {rest : List Oper} {z : Value} {u : Value}
theorem R.lookKT (ho : o.op = .lookup t x y true) (hx : evM M x = some (.map (some b))) (KE : KeyE P k d ke) (ht : P.underlying t = some (.map k e)) (hz : zeroB P e = some z) (h : MapK d ke ve w b n f) (a : α) (hy : evM M y = some (ke a)) {v : β} (hv : f a = some v) : Runs P N D M o w (.value (.tuple #[ve v, .bool true])) w := fun ac F => by
  unfold execOp; simp only [ho, F.ev hx, F.ev hy, Sem.run_bind, Sem.run_pure, I.look KE ht hz h a true, Result.andThen_ok]; simp [hv, atK]
theorem R.lookKF (ho : o.op = .lookup t x y true) (hx : evM M x = some (.map (some b))) (KE : KeyE P k d ke) (ht : P.underlying t = some (.map k e)) (hz : zeroB P e = some z) (h : MapK d ke ve w b n f) (a : α) (hy : evM M y = some (ke a)) (hv : f a = none) : Runs P N D M o w (.value (.tuple #[z, .bool false])) w := fun ac F => by
  unfold execOp; simp only [ho, F.ev hx, F.ev hy, Sem.run_bind, Sem.run_pure, I.look KE ht hz h a true, Result.andThen_ok]; simp [hv, atK]
theorem R.makeMap0 (ho : o.op = .makeMap t none) : Runs P N D M o w (.value (.map (some w.heap.size))) (w.alloc (.map #[] 0)) := fun ac F => by
  unfold execOp; simp [ho, Instr.makeMap, Result.andThen]
theorem LL.makeMap (hr : Runs P N D M o w (.value (.map (some w.heap.size))) (w.alloc (.map #[] 0))) (hd : dstB N o.dst = true) (hdf : dfB o.op = false) (hg : wantB ops M o.guard = some true)
    (c : ∀ w1 g, g = w.heap.size → (∀ (α β : Type) (d : TypeDesc) (ke : α → Value) (ve : β → Value), MapK d ke ve w1 g 0 (fun _ => none)) → w1.heap.size = g + 1 → Below w.heap.size w w1 → LL r P ops Q N D (putM M o.dst (.map (some g))) rest w1) : LL r P ops Q N D M (o :: rest) w :=
  LL.val hr hd hdf hg (c _ _ rfl (fun _ _ _ _ _ => (MapK.made w).2 fun _ => rfl) (by simp) (Below.alloc0 w _))
theorem LL.mput [DecidableEq α] {y2 : Operand} (ho : o.op = .mapUpdate t x y y2 ∨ o.op = .insert t x y y2) (hx : evM M x = some (.map (some b))) (KE : KeyE P k d ke) (ht : P.underlying t = some (.map k e)) (h : MapK d ke ve w b n f) (a : α) (v : β) (hy : evM M y = some (ke a)) (hv : evM M y2 = some (ve v)) (hd : o.dst = none) (hdf : dfB o.op = false) (hg : wantB ops M o.guard = some true)
    (c : ∀ w', MapK d ke ve w' b (if (f a).isSome then n else n + 1) (putMap f a (some v)) → w.grownBy w' (some b) → w'.heap.size = w.heap.size → LL r P ops Q N D M rest w') : LL r P ops Q N D M (o :: rest) w := by
  obtain ⟨w', h1, h2, h3, h4⟩ := I.mput KE ht h a v
  refine LL.unit (w' := w') (fun ac F => ?_) hd hdf hg (c w' h2 h3 h4)
  unfold execOp
  rcases ho with ho | ho <;> simp only [ho, F.ev hx, F.ev hy, F.ev hv, Sem.run_bind, Sem.run_pure, h1, Result.andThen_ok]
end
set_option linter.unusedVariables false
set_option linter.unusedSimpArgs false
abbrev Bs := List UInt8
abbrev strV (l : Bs) : Value := .string ⟨l.toArray⟩
theorem bs_list (l : Bs) : (⟨l.toArray⟩ : ByteArray).toList = l := by rw [ByteArray.toList_eq]
theorem bs_data (s : ByteArray) : s = ⟨s.data.toList.toArray⟩ := by cases s; simp
section
variable {P : Program} {w : World} {o : Oper} {n : Nat} {D : List Deferred} {M : Slots} {x y : Operand} {t u : TypeId} {a b : Bs} {i : Nat}
theorem R.eqS {c : Bool} (ho : o.op = .binOp .eql t x y u) (hx : evM M x = some (strV a)) (hy : evM M y = some (strV b)) (hc : decide (a = b) = c) : Runs P n D M o w (.value (.bool c)) w :=
  R.eqStr ho hx hy (by rw [bs_list, bs_list, ← hc, Bool.eq_iff_iff]; simp)
theorem R.neS {c : Bool} (ho : o.op = .binOp .neq t x y u) (hx : evM M x = some (strV a)) (hy : evM M y = some (strV b)) (hc : (!decide (a = b)) = c) : Runs P n D M o w (.value (.bool c)) w :=
  R.neStr ho hx hy (by rw [bs_list, bs_list, ← hc, Bool.eq_iff_iff]; simp)
theorem I.ixStr {c : UInt8} (ht : isStr P t = true) (hi : a[i]? = some c) : (Instr.index t (strV a) (.int .i64 (i : Int))).run P w = .ok (.int .u8 (c.toNat : Int)) w := by
  unfold isStr at ht
  cases hu : P.underlying t with
  | none => rw [hu] at ht; cases ht
  | some d =>
    rw [hu] at ht
    cases d <;> try (cases ht; done)
    have hg : (⟨a.toArray⟩ : ByteArray)[i]? = some c := by
      have hlt := (List.getElem?_eq_some_iff.1 hi)
      obtain ⟨h1, h2⟩ := hlt
      have hs : i < (⟨a.toArray⟩ : ByteArray).size := by simpa [ByteArray.size] using h1
      rw [getElem?_pos _ i hs]
      congr 1
    have h0 : (0 : Int) ≤ (i : Int) := by omega
    simp [Instr.index, asIntOf, run_underlying hu, h0, hg]
theorem R.ixS {c : UInt8} (ho : o.op = .index t x y) (hx : evM M x = some (strV a)) (hy : evM M y = some (.int .i64 (i : Int))) (ht : isStr P t = true) (hi : a[i]? = some c) : Runs P n D M o w (.value (.int .u8 (c.toNat : Int))) w :=
  R.indexV ho hx hy (I.ixStr ht hi)
theorem R.lenS {xs : Array Operand} {ts : Array TypeId} (ho : o.op = .call { callee := .builtin .len, args := xs, argTypes := ts }) (hx : evsM M xs.toList = some [strV a]) (ht : ts[0]? = some t) (h : lenB P t (strV a) = some a.length) : Runs P n D M o w (.value (.int .i64 (a.length : Int))) w := R.len ho hx ht h
end
set_option linter.unusedVariables false
set_option linter.unusedSimpArgs false
/-- k cells from a place on. -/
structure CellsN (w : World) (p : Addr) (k : Nat) (vs : List Value) : Prop where
  at' : Cells w p vs
  len : vs.length = k
section
variable {w w' : World} {p : Addr} {k b o : Nat} {vs : List Value} {P : Program} {t : TypeId}
theorem CellsN.lt (h : CellsN w ⟨b, o, none⟩ k vs) (hk : 0 < k) : b < w.heap.size := by
  have hl := h.len
  obtain ⟨u, hu⟩ : ∃ u, vs[0]? = some u := ⟨_, List.getElem?_eq_getElem (by omega)⟩
  have := h.at' 0 u hu
  rw [add_plain] at this
  exact World.block_lt_of_cell? _ _ this
theorem CellsN.up (h : CellsN w ⟨b, o, none⟩ k vs) (hb : Below w.heap.size w w') : CellsN w' ⟨b, o, none⟩ k vs := ⟨fun j u hu => by
  have h1 := h.at' j u hu
  rw [add_plain] at *
  exact (hb.cell (p := ⟨b, o + j, none⟩) (World.block_lt_of_cell? _ _ h1)).trans h1, h.len⟩
theorem CellsN.gr {r : Nat} (h : CellsN w ⟨b, o, none⟩ k vs) (hg : w.grownBy w' (some r)) (hne : b ≠ r) : CellsN w' ⟨b, o, none⟩ k vs := ⟨fun j u hu => by
  have h1 := h.at' j u hu
  rw [add_plain] at *
  exact (World.cell?_of_block (hg.block b (World.block_lt_of_cell? _ _ h1) (by simpa using hne))).trans h1, h.len⟩
theorem CellsN.kept {K : Nat → Prop} (h : CellsN w ⟨b, o, none⟩ k vs) (hk : Kept K w w') (hb : K b) : CellsN w' ⟨b, o, none⟩ k vs := ⟨fun j u hu => by
  have h1 := h.at' j u hu
  rw [add_plain] at *
  exact (World.cell?_of_block (hk.block b hb)).trans h1, h.len⟩
/-- A part. -/
theorem CellsN.part {us : List Value} (h : CellsN w ⟨b, o, none⟩ k vs) (c : Nat) {k' : Nat} (hu : (vs.drop c).take k' = us) (hl : c + k' ≤ k) : CellsN w ⟨b, o + c, none⟩ k' us := by
  have hv := h.len
  subst hu
  refine ⟨fun j u hj => ?_, by rw [List.length_take, List.length_drop]; omega⟩
  have hlt := (List.getElem?_eq_some_iff.1 hj).1
  rw [List.length_take, List.length_drop] at hlt
  rw [List.getElem?_take, if_pos (by omega), List.getElem?_drop] at hj
  have := h.at' _ u hj
  rw [add_plain] at *
  rw [Nat.add_assoc]
  exact this
theorem CellsN.cell {u : Value} (h : CellsN w ⟨b, o, none⟩ k vs) {j : Nat} (hu : vs[j]? = some u) : w.cell? ⟨b, o + j, none⟩ = some u := by
  have := h.at' j u hu
  rwa [add_plain] at this
theorem I.ldM (h : CellsN w p k vs) (hT : aggB P t = true) (hz : szB P t = some k) : (Instr.loadAt t (.pointer (some p))).run P w = .ok (.agg vs.toArray) w := I.ldN hT (by rw [hz, h.len]) h.at'
theorem RowL.cellsN {g e off : Nat} {xs : List Value} (h : RowL w g e xs) (hv : (xs.drop off).take k = vs) (hl : off + k ≤ xs.length) : CellsN w ⟨g, off, none⟩ k vs := by
  have hlen : vs.length = k := by rw [← hv, List.length_take, List.length_drop]; omega
  exact ⟨h.cells (by rw [hlen]; exact hv), hlen⟩
theorem RowL.elemN {α : Type} {enc : α → List Value} {g e i : Nat} {ts : List α} {x : α} (E : Enc enc k) (h : RowL w g e (ts.flatMap enc)) (hx : ts[i]? = some x) : CellsN w ⟨g, i * k, none⟩ k (enc x) := by
  have hi := (List.getElem?_eq_some_iff.1 hx).1
  have hf := E.flat ts
  have hin : i * k + k ≤ ts.length * k := by
    have : (i + 1) * k ≤ ts.length * k := Nat.mul_le_mul_right _ hi
    rw [Nat.add_mul] at this
    omega
  refine h.cellsN ?_ (by omega)
  rw [E.drop, ← Nat.one_mul k, E.take]
  rw [show ts.drop i = x :: ts.drop (i + 1) by rw [← (List.getElem?_eq_some_iff.1 hx).2]; exact List.drop_eq_getElem_cons hi]
  simp
theorem ReadsT.elemN {α : Type} {enc : α → List Value} (E : Enc enc k) {off n cap i : Nat} {ts : List α} {x : α} (h : ReadsT enc k w (.slice (some ⟨b, off, none⟩) n cap) ts) (hx : ts[i]? = some x) : CellsN w ⟨b, off + i * k, none⟩ k (enc x) := by
  obtain ⟨b', off', e, _, hc⟩ := h.get E hx
  simp only [Option.some.injEq, Addr.mk.injEq] at e
  obtain ⟨rfl, rfl, _⟩ := e
  exact ⟨hc, E.len x⟩
theorem ReadsT.kp {α : Type} {enc : α → List Value} {K : Nat → Prop} {off n cap : Nat} {ts : List α} (h : ReadsT enc k w (.slice (some ⟨b, off, none⟩) n cap) ts) (hk : Kept K w w') (hb : K b) : ReadsT enc k w' (.slice (some ⟨b, off, none⟩) n cap) ts :=
  h.sameB hk.size fun _ ho => (hk.block b hb).trans ho
end
section
variable {α : Type} {enc : α → List Value} {k : Nat} {P : Program} {w : World} {o : Oper} {n : Nat} {D : List Deferred} {M : Slots} {T e : TypeId} {z : Value} {bytes : Nat} {r : Option Nat} {ops : Array Oper} {Q : Exit → Act → World → Prop} {rest : List Oper}
theorem madeCells_rep (zs : List Value) (hk : 0 < zs.length) (m : Nat) : (madeCells zs.toArray (m * zs.length)).toList = (List.replicate m zs).flatten := by
  apply List.ext_getElem?
  intro j
  unfold madeCells
  simp only [Array.toList_map, Array.toList_range, List.getElem?_map, List.size_toArray]
  have key : ∀ (m j : Nat), (List.replicate m zs).flatten[j]? = if j < m * zs.length then zs[j % zs.length]? else none := by
    intro m
    induction m with
    | zero => intro j; simp
    | succ m ih =>
      intro j
      rw [List.replicate_succ, List.flatten_cons, List.getElem?_append]
      by_cases hj : j < zs.length
      · rw [if_pos hj, Nat.mod_eq_of_lt hj, if_pos]
        rw [Nat.add_mul]; omega
      · rw [if_neg hj, ih (j - zs.length)]
        have e1 : (j - zs.length) % zs.length = j % zs.length := by
          conv => rhs; rw [show j = (j - zs.length) + zs.length by omega, Nat.add_mod_right]
        rw [e1, Nat.add_mul]
        by_cases h2 : j - zs.length < m * zs.length
        · rw [if_pos h2, if_pos (by omega)]
        · rw [if_neg h2, if_neg (by omega)]
  rw [key]
  by_cases hj : j < m * zs.length
  · have hm : j % zs.length < zs.length := Nat.mod_lt _ hk
    rw [if_pos hj, List.getElem?_range hj, List.getElem?_eq_getElem hm]
    simp [hm]
  · rw [if_neg hj, List.getElem?_eq_none (by simpa using Nat.le_of_not_lt hj)]
    rfl
/-- make([]T, l, m) of elements of many cells. -/
theorem run_mkE {zs : List Value} (I : ElT P T e z k bytes) (hzc : z.cells = zs.toArray) (hk : 0 < k) (l m : Nat) (hl : l ≤ m) (hb : bytes * m ≤ 281474976710656) (hn : m ≤ 9223372036854775807) (w : World) :
    ∃ w', (Instr.makeSlice T (.int .i64 (l : Int)) (.int .i64 (m : Int))).run P w = .ok (.slice (some ⟨w.heap.size, 0, none⟩) l m) w' ∧ RowL w' w.heap.size e (List.replicate m zs).flatten ∧ Below w.heap.size w w' ∧ w'.heap.size = w.heap.size + 1 := by
  obtain ⟨i, hi, hz, hsz, hby⟩ := I.info
  have hm := I.many
  rw [hzc] at hm
  have hzl : zs.length = k := by simpa using hm
  have hb' : (i.bytes : Int) * (m : Int) ≤ 281474976710656 := by
    have h : ((i.bytes * m : Nat) : Int) ≤ 281474976710656 := by rw [hby]; omega
    rwa [Int.natCast_mul] at h
  have h := run_make (P := P) w T e i z I.under hi hz .i64 .i64 l m (by omega) (by omega) hb' (by omega)
  simp only [Int.toNat_natCast, hsz, hzc] at h
  refine ⟨_, h, ?_, Below.alloc0 w _, by simp⟩
  have e1 : madeCells zs.toArray (m * k) = (List.replicate m zs).flatten.toArray := by
    rw [← madeCells_rep zs (by omega) m, hzl]
  rw [e1]
  exact RowL.new w e _
theorem LL.makeE {x y : Operand} {l m : Nat} {zs : List Value} (I : ElT P T e z k bytes) (hzc : z.cells = zs.toArray) (hk : 0 < k) (ho : o.op = .makeSlice T x y) (hx : evM M x = some (.int .i64 (l : Int))) (hy : evM M y = some (.int .i64 (m : Int))) (hl : l ≤ m) (hb : bytes * m ≤ 281474976710656) (hn : m ≤ 9223372036854775807) (hd : dstB n o.dst = true) (hg : wantB ops M o.guard = some true)
    (c : ∀ w1 g, g = w.heap.size → RowL w1 g e (List.replicate m zs).flatten → w1.heap.size = g + 1 → Below w.heap.size w w1 → LL r P ops Q n D (putM M o.dst (.slice (some ⟨g, 0, none⟩) l m)) rest w1) : LL r P ops Q n D M (o :: rest) w := by
  obtain ⟨w', h1, h2, h3, h4⟩ := run_mkE I hzc hk l m hl hb hn w
  exact LL.val (R.make ho hx hy h1) hd (by rw [ho]; rfl) hg (c w' _ rfl h2 h4 h3)
/-- A row that is made, as a slice of one's own without elements. -/
theorem RowL.own0 {g cap base : Nat} {xs : List Value} (h : RowL w g e xs) (hl : xs.length = cap * k) (hb : base ≤ g) (hc : cap ≤ maxLen) : OwnsT enc k w base e (.slice (some ⟨g, 0, none⟩) 0 cap) [] :=
  ⟨by simp, .inr ⟨g, cap, xs.toArray, rfl, hb, h, Nat.zero_le _, hc, by simpa using hl, by simp⟩⟩
end
end Go.Proofs.YtnoefalgmekjbaaDoor
/-
  DERIVED: THE SHELF's CONTRACTS AT THIS DUMP, IN PLAIN WORDS (tools/lay-plain.mjs out of 'TrydShelf.lean', which tools/lay-shelf.mjs wrote): THE SAME DECLARATIONS UNDER THE SAME NAMES: 'import', 'namespace', 'open', 'def', 'theorem' AND NOTHING ELSE: no command of the shelf's: FOR A HAND-IN. Each laying: the table of numbers ('.._ren') and one theorem, a field a fact of the dump's own or the kernel's comparison; each contract: ONE APPLICATION.
-/
namespace Go.Proofs
open Go.Shelf
def Tryd.lays137_ren : Go.Shelf.Ren := ⟨fun | 137 => 72 | 217 => 83 | 266 => 92 | n => n, fun | 9 => 9 | 5 => 5 | 3 => 3 | n => n, fun | n => n⟩
theorem Tryd.lays137 : Go.Proofs.Lays.n137 Tryd.prog Tryd.lays137_ren := {
  mixed := by kernel_rfl
  f137 := Tryd.func72.trans (congrArg some (by kernel_rfl))
  f217 := Tryd.func83.trans (congrArg some (by kernel_rfl))
  f266 := Tryd.func92.trans (congrArg some (by kernel_rfl))
  t3 := Tryd.underlying3
  a3 := Tryd.isAgg3
  z3 := Tryd.sizeOf3
  v3 := Tryd.zeroValue3
  t5 := Tryd.underlying5
  a5 := Tryd.isAgg5
  z5 := Tryd.sizeOf5
  v5 := Tryd.zeroValue5
  t9 := Tryd.underlying9
  a9 := Tryd.isAgg9
  z9 := Tryd.sizeOf9
  v9 := Tryd.zeroValue9 }
open Go.RowKit in
/-- strings.IndexByte: "IndexByte returns the index of the first instance of c in s, or -1 if c is not present in s.": IT RETURNS 'Lib.indexByte s c'; the world is as it was. (LAID: no walk: one application.) -/
theorem Tryd.strings_IndexByte (s : ByteArray) (c : Int) (w : World) :
    Calls Tryd.prog 72 #[.string s, .int .u8 c] w fun e w' => e = .returned (.int .i64 (Lib.indexByte s.data.toList c.toNat.toUInt8)) ∧ w' = w := Any.strings_IndexByte Tryd.lays137 s c w
end Go.Proofs
namespace Go.Proofs.YtnoefalgmekjbaaDoor
set_option linter.unusedVariables false
set_option linter.unusedSimpArgs false
open Go.RowKit Go.Shelf
set_option maxRecDepth 100000
set_option maxHeartbeats 8000000
/-- An inode's value. -/
abbrev inL (k l z : Int) (a : Value) (r p : Int) (t : Bs) : List Value := [.int .i64 k, .int .i64 l, .int .i64 z, a, .int .i64 r, .int .i64 p, strV t]
abbrev inV (k l z : Int) (a : Value) (r p : Int) (t : Bs) : Value := .agg #[.int .i64 k, .int .i64 l, .int .i64 z, a, .int .i64 r, .int .i64 p, strV t]
theorem within_any (n lo hi : Int) (w : World) : Calls Tryd.prog 46 #[.int .i64 n, .int .i64 lo, .int .i64 hi] w fun e w' => e = .returned (.bool (decide (lo ≤ n ∧ n ≤ hi))) ∧ w = w' := by
  by_cases h1 : lo ≤ n
  · by_cases h2 : n ≤ hi
    · rw [decide_eq_true (by omega)]
      refine X.fn Tryd.func46 rfl (n := 15) rfl rfl ?_
      refine Zr ?_; refine Za ?_; refine Zq ?_; refine Zr ?_; refine Zm ?_; refine Zm ?_; refine ZleT ?_; refine Zm ?_; refine Zm ?_; refine Zm ?_; refine ZleT ?_; refine Zp ?_; refine Za ?_; refine Zq ?_; refine ZR ?_; refine EE.ret _ rfl rfl ?_
      exact ⟨rfl, rfl⟩
    · rw [decide_eq_false (by omega)]
      refine X.fn Tryd.func46 rfl (n := 15) rfl rfl ?_
      refine Zr ?_; refine Za ?_; refine Zq ?_; refine Zr ?_; refine Zm ?_; refine Zm ?_; refine ZleT ?_; refine Zm ?_; refine Zm ?_; refine Zm ?_; refine ZleF ?_; refine Zp ?_; refine Za ?_; refine Zq ?_; refine ZR ?_; refine EE.ret _ rfl rfl ?_
      exact ⟨rfl, rfl⟩
  · rw [decide_eq_false (by omega)]
    refine X.fn Tryd.func46 rfl (n := 15) rfl rfl ?_
    refine Zr ?_; refine Za ?_; refine Zq ?_; refine Zr ?_; refine Zm ?_; refine Zm ?_; refine ZleF ?_; refine Zm ?_; refine Zs ?_; refine Zs ?_; refine Zs ?_; refine Zp ?_; refine Za ?_; refine Zq ?_; refine ZR ?_; refine EE.ret _ rfl rfl ?_
    exact ⟨rfl, rfl⟩
theorem within_T (n lo hi : Int) (w : World) (h : lo ≤ n ∧ n ≤ hi) : Calls Tryd.prog 46 #[.int .i64 n, .int .i64 lo, .int .i64 hi] w fun e w' => e = .returned (.bool true) ∧ w = w' := by
  have := within_any n lo hi w
  rw [decide_eq_true h] at this
  exact this
theorem within_F (n lo hi : Int) (w : World) (h : n < lo ∨ hi < n) : Calls Tryd.prog 46 #[.int .i64 n, .int .i64 lo, .int .i64 hi] w fun e w' => e = .returned (.bool false) ∧ w = w' := by
  have := within_any n lo hi w
  rw [decide_eq_false (by omega)] at this
  exact this
theorem kwithin_T (n lo hi : Int) (w : World) (h : lo ≤ n ∧ n ≤ hi) : Calls Tryd.prog 45 #[.int .i64 n, .int .i64 lo, .int .i64 hi] w fun e w' => e = .returned (.bool true) ∧ w = w' := by
  refine X.fn Tryd.func45 rfl (n := 15) rfl rfl ?_
  refine Zr ?_; refine Za ?_; refine Zq ?_; refine Zr ?_; refine Zm ?_; refine Zm ?_; refine ZleT ?_; refine Zm ?_; refine Zm ?_; refine Zm ?_; refine ZleT ?_; refine Zp ?_; refine Za ?_; refine Zq ?_; refine ZR ?_; refine EE.ret _ rfl rfl ?_
  exact ⟨rfl, rfl⟩
theorem kwithin_F (n lo hi : Int) (w : World) (h : n < lo ∨ hi < n) : Calls Tryd.prog 45 #[.int .i64 n, .int .i64 lo, .int .i64 hi] w fun e w' => e = .returned (.bool false) ∧ w = w' := by
  by_cases h1 : n < lo
  · refine X.fn Tryd.func45 rfl (n := 15) rfl rfl ?_
    refine Zr ?_; refine Za ?_; refine Zq ?_; refine Zr ?_; refine Zm ?_; refine Zm ?_; refine ZleF ?_; refine Zm ?_; refine Zs ?_; refine Zs ?_; refine Zs ?_; refine Zp ?_; refine Za ?_; refine Zq ?_; refine ZR ?_; refine EE.ret _ rfl rfl ?_
    exact ⟨rfl, rfl⟩
  · refine X.fn Tryd.func45 rfl (n := 15) rfl rfl ?_
    refine Zr ?_; refine Za ?_; refine Zq ?_; refine Zr ?_; refine Zm ?_; refine Zm ?_; refine ZleT ?_; refine Zm ?_; refine Zm ?_; refine Zm ?_; refine ZleF ?_; refine Zp ?_; refine Za ?_; refine Zq ?_; refine ZR ?_; refine EE.ret _ rfl rfl ?_
    exact ⟨rfl, rfl⟩
/-- What a refusal is. -/
abbrev refV : Value := .iface 100 (.agg #[.int .i64 240])
theorem refuse_F (w : World) : Calls Tryd.prog 38 #[.bool false] w fun x w' => x = .returned (.tuple #[]) ∧ w = w' := by
  refine X.fn Tryd.func38 rfl (n := 5) rfl rfl ?_
  refine Zr ?_; refine Zm ?_; refine Zq ?_; refine ZN ?_; refine ZK ?_; refine EE.end _ rfl rfl ?_
  exact ⟨rfl, rfl⟩
--C inode_refuse | refuse_T @w | P ⟨rfl, rfl⟩
theorem refuse_T (w : World) : Calls Tryd.prog 38 #[.bool true] w fun x w' => x = .panicked (chain1 refV) ∧ w = w' := by
  refine X.fn Tryd.func38 rfl (n := 5) rfl rfl ?_
  refine Zr ?_; refine Zm ?_; refine Zq ?_; refine ZY ?_; refine CC.region ?_
  refine LL.val (R.buildV rfl rfl (v := .agg #[Value.int IntKind.i64 240]) (fun _ => by kernel_rfl)) rfl rfl rfl ?_
  refine LL.val (R.mkIface rfl rfl (by kernel_rfl)) rfl rfl rfl ?_
  refine LL.panic rfl rfl rfl ?_; refine EE.pan ?_
  exact ⟨rfl, rfl⟩
theorem number_T (x : Nat) (w : World) (h : x ≤ 65536) : Calls Tryd.prog 69 #[.int .u64 (x : Int)] w fun e w' => e = .returned (.int .i64 (x : Int)) ∧ w = w' := by
  refine X.fn Tryd.func69 rfl (n := 8) rfl rfl ?_
  refine Zr ?_; refine Za ?_; refine Zq ?_; refine Zr ?_; refine Zm ?_; refine ZgtF ?_
  refine Zy (R.call rfl rfl rfl) (refuse_F _) ?_
  rintro e W' ⟨rfl, rfl⟩
  refine ⟨_, rfl, ?_⟩; refine Zq ?_; refine Zr ?_; refine Zm ?_
  refine LL.val (R.convI rfl rfl rfl rfl (wrapI (by omega) (by omega))) rfl rfl rfl ?_
  refine Za ?_; refine Zq ?_; refine ZR ?_; refine EE.ret _ rfl rfl ?_
  exact ⟨rfl, rfl⟩
theorem zKeys : KeyE Tryd.prog 22 (.int .i64) (fun z : Int => .int .i64 z) := ⟨by kernel_rfl, fun _ => rfl, fun a b h => by
  simp only [Value.int.injEq, true_and] at h
  exact h⟩
/-- What a kind has: four functions. -/
abbrev fnV (f : Nat) : Value := .func (.func f) #[] #[]
def kdV (x : Nat × Nat × Nat × Nat) : Value := .agg #[fnV x.1, fnV x.2.1, fnV x.2.2.1, fnV x.2.2.2]
def kd0 : Nat × Nat × Nat × Nat := (57, 58, 59, 60)
def kd1 : Nat × Nat × Nat × Nat := (61, 62, 63, 64)
def kd2 : Nat × Nat × Nat × Nat := (65, 66, 67, 68)
def kd3 : Nat × Nat × Nat × Nat := (70, 71, 73, 75)
def kindsF : Int → Option (Nat × Nat × Nat × Nat) := putMap (putMap (putMap (putMap (fun _ => none) 0 (some kd0)) 1 (some kd1)) 2 (some kd2)) 3 (some kd3)
abbrev KMap (w : World) (m n : Nat) : Prop := MapK (.int .i64) (fun z : Int => .int .i64 z) kdV w m n kindsF
theorem kinds_any (w : World) : Calls Tryd.prog 40 #[] w fun e w' => ∃ m n, e = .returned (.map (some m)) ∧ KMap w' m n ∧ Below w.heap.size w w' := by
  have q := Below.refl w.heap.size w
  refine X.fn Tryd.func40 rfl (n := 7) rfl rfl ?_
  refine Zr ?_; refine Za ?_; refine Zq ?_; refine Zr ?_
  (refine LL.makeMap (R.makeMap0 rfl) rfl rfl rfl ?_; intro W39 qb eqb mk zqb b36; replace mk := mk Int (Nat × Nat × Nat × Nat) (.int .i64) (fun z : Int => .int .i64 z) kdV)
  have zb36 := b36.size; replace q := Zu q b36
  refine LL.val (R.buildV rfl rfl (v := .agg #[Value.func (Fn.func 57) #[] #[], Value.func (Fn.func 58) #[] #[], Value.func (Fn.func 59) #[] #[], Value.func (Fn.func 60) #[] #[]]) (fun _ => by kernel_rfl)) rfl rfl rfl ?_
  (refine LL.mput (.inr rfl) rfl zKeys rfl mk (0 : Int) kd0 rfl rfl rfl rfl rfl ?_; intro W88 mq gr86 zz5; replace mk := mq; clear mq)
  have zgr86 := gr86.size; replace b36 := Zg b36 gr86; replace q := Zg q gr86
  refine LL.val (R.buildV rfl rfl (v := .agg #[Value.func (Fn.func 61) #[] #[], Value.func (Fn.func 62) #[] #[], Value.func (Fn.func 63) #[] #[], Value.func (Fn.func 64) #[] #[]]) (fun _ => by kernel_rfl)) rfl rfl rfl ?_
  (refine LL.mput (.inr rfl) rfl zKeys rfl mk (1 : Int) kd1 rfl rfl rfl rfl rfl ?_; intro W144 mq gr142 zz5; replace mk := mq; clear mq)
  have zgr142 := gr142.size; replace b36 := Zg b36 gr142; replace q := Zg q gr142
  refine LL.val (R.buildV rfl rfl (v := .agg #[Value.func (Fn.func 65) #[] #[], Value.func (Fn.func 66) #[] #[], Value.func (Fn.func 67) #[] #[], Value.func (Fn.func 68) #[] #[]]) (fun _ => by kernel_rfl)) rfl rfl rfl ?_
  (refine LL.mput (.inr rfl) rfl zKeys rfl mk (2 : Int) kd2 rfl rfl rfl rfl rfl ?_; intro W207 mq gr205 zz5; replace mk := mq; clear mq)
  have zgr205 := gr205.size; replace b36 := Zg b36 gr205; replace q := Zg q gr205
  refine LL.val (R.buildV rfl rfl (v := .agg #[Value.func (Fn.func 70) #[] #[], Value.func (Fn.func 71) #[] #[], Value.func (Fn.func 73) #[] #[], Value.func (Fn.func 75) #[] #[]]) (fun _ => by kernel_rfl)) rfl rfl rfl ?_
  (refine LL.mput (.inr rfl) rfl zKeys rfl mk (3 : Int) kd3 rfl rfl rfl rfl rfl ?_; intro W277 mq gr275 zz5; replace mk := mq; clear mq)
  have zgr275 := gr275.size; replace b36 := Zg b36 gr275; replace q := Zg q gr275; refine Zm ?_; refine Za ?_; refine Zq ?_; refine ZR ?_; refine EE.ret _ rfl rfl ?_
  exact ⟨_, _, rfl, mk, q⟩
theorem idx_mem (l : Bs) (c : UInt8) : (0 ≤ Lib.indexByte l c ↔ c ∈ l) := by
  have hge := Lib.indexByte_ge l c
  constructor
  · intro h
    obtain ⟨i, hi⟩ : ∃ i : Nat, Lib.indexByte l c = i := ⟨(Lib.indexByte l c).toNat, by omega⟩
    exact List.mem_of_getElem? (Lib.indexByte_some hi).1
  · intro h
    obtain ⟨k, hk⟩ := List.mem_iff_getElem?.1 h
    rcases Int.lt_or_le (Lib.indexByte l c) 0 with h0 | h0
    · exact absurd hk (Lib.indexByte_none (by omega) k)
    · exact h0
theorem idx_any (l : Bs) (w : World) : Calls Tryd.prog 72 #[strV l, .int .u8 0] w fun e w' => e = .returned (.int .i64 (Lib.indexByte l 0)) ∧ w = w' :=
  (Tryd.strings_IndexByte ⟨l.toArray⟩ 0 w).mono fun e w' ⟨he, hw⟩ => ⟨by rw [he]; rfl, hw.symm⟩
section
variable (k l z : Int) (a : Value) (r p : Int) (t : Bs)
theorem nm0_any (w : World) : Calls Tryd.prog 57 #[inV k l z a r p t] w fun e w' => e = .returned (inV 0 0 0 (.slice none 0 0) 0 0 []) ∧ Below w.heap.size w w' := by
  have q := Below.refl w.heap.size w
  refine X.fn Tryd.func57 rfl (n := 4) rfl rfl ?_
  refine Zr ?_
  refine LL.box [.int .i64 k, .int .i64 l, .int .i64 z, a, .int .i64 r, .int .i64 p, strV t] rfl rfl rfl rfl rfl ?_
  intro W2 g3 eg3 r4 z5 b1
  replace q := Zu q b1; have l6 := r4.lt
  refine LL.alloc ([.int .i64 0, .int .i64 0, .int .i64 0, .slice none 0 0, .int .i64 0, .int .i64 0, .string { data := { toList := [] } }]) rfl rfl rfl rfl rfl ?_
  intro W8 g9 eg9 r10 z11 b7
  replace r4 := r4.up b7; replace b1 := Zu b1 b7; replace q := Zu q b7; refine Zq ?_; refine Zr ?_
  refine LL.val (R.buildV rfl rfl (v := .agg #[Value.int IntKind.i64 0, Value.int IntKind.i64 0, Value.int IntKind.i64 0, Value.slice none 0 0, Value.int IntKind.i64 0, Value.int IntKind.i64 0, Value.string { data := #[] }]) (fun _ => by kernel_rfl)) rfl rfl rfl ?_
  refine LL.storeN (vs := [.int .i64 0, .int .i64 0, .int .i64 0, .slice none 0 0, .int .i64 0, .int .i64 0, .string { data := #[] }]) rfl rfl rfl rfl r10 (by exact Nat.le_of_ble_eq_true rfl) (ones_of rfl) rfl rfl ?_
  intro W13 r14 b12 z15
  have hlb12 := r10.lt
  replace r14 : RowL W13 _ 25 [.int .i64 0, .int .i64 0, .int .i64 0, .slice none 0 0, .int .i64 0, .int .i64 0, .string { data := #[] }] := r14
  clear r10
  replace b7 := Zg b7 b12; replace r4 := Zd r4 b12; replace b1 := Zg b1 b12; replace q := Zg q b12
  have r10 := r14
  clear r14
  refine Zq ?_; refine ZR ?_
  refine EE.retC rfl rfl (lvNc (RowL.cells0 (by assumption)) (by rfl) (by rfl)) ?_
  exact ⟨rfl, q⟩
theorem nm1_any (w : World) (ha : ∃ x n c, a = .slice x n c) : Calls Tryd.prog 61 #[inV k l z a r p t] w fun e w' => e = .returned (inV k l z a 0 0 []) ∧ Below w.heap.size w w' := by
  have q := Below.refl w.heap.size w
  obtain ⟨xa, na, ca, rfl⟩ := ha
  refine X.fn Tryd.func61 rfl (n := 12) rfl rfl ?_
  refine Zr ?_
  refine LL.box [.int .i64 k, .int .i64 l, .int .i64 z, .slice xa na ca, .int .i64 r, .int .i64 p, strV t] rfl rfl rfl rfl rfl ?_
  intro W2 g3 eg3 r4 z5 b1
  replace q := Zu q b1; have l6 := r4.lt
  refine LL.alloc ([.int .i64 0, .int .i64 0, .int .i64 0, .slice none 0 0, .int .i64 0, .int .i64 0, .string { data := { toList := [] } }]) rfl rfl rfl rfl rfl ?_
  intro W8 g9 eg9 r10 z11 b7
  replace r4 := r4.up b7; replace b1 := Zu b1 b7; replace q := Zu q b7; refine Zq ?_; refine Zr ?_; refine Zf ?_; refine Zl r4 ?_; refine Zf ?_; refine Zl r4 ?_; refine Zf ?_; refine Zl r4 ?_; refine Zf ?_; refine Zl r4 ?_
  refine LL.val (R.buildV rfl rfl (v := .agg #[Value.int IntKind.i64 k, Value.int IntKind.i64 l, Value.int IntKind.i64 z, Value.slice xa na ca, Value.int IntKind.i64 0, Value.int IntKind.i64 0, Value.string { data := #[] }]) (fun _ => by kernel_rfl)) rfl rfl rfl ?_
  refine LL.storeN (vs := [.int .i64 k, .int .i64 l, .int .i64 z, .slice xa na ca, .int .i64 0, .int .i64 0, .string { data := #[] }]) rfl rfl rfl rfl r10 (by exact Nat.le_of_ble_eq_true rfl) (ones_of rfl) rfl rfl ?_
  intro W13 r14 b12 z15
  have hlb12 := r10.lt
  replace r14 : RowL W13 _ 25 [.int .i64 k, .int .i64 l, .int .i64 z, .slice xa na ca, .int .i64 0, .int .i64 0, .string { data := #[] }] := r14
  clear r10
  replace b7 := Zg b7 b12; replace r4 := Zd r4 b12; replace b1 := Zg b1 b12; replace q := Zg q b12
  have r10 := r14
  clear r14
  refine Zq ?_; refine ZR ?_
  refine EE.retC rfl rfl (lvNc (RowL.cells0 (by assumption)) (by rfl) (by rfl)) ?_
  exact ⟨rfl, q⟩
theorem nm2_any (w : World) (ha : ∃ x n c, a = .slice x n c) : Calls Tryd.prog 65 #[inV k l z a r p t] w fun e w' => e = .returned (inV k l 0 (.slice none 0 0) r p []) ∧ Below w.heap.size w w' := by
  have q := Below.refl w.heap.size w
  obtain ⟨xa, na, ca, rfl⟩ := ha
  refine X.fn Tryd.func65 rfl (n := 12) rfl rfl ?_
  refine Zr ?_
  refine LL.box [.int .i64 k, .int .i64 l, .int .i64 z, .slice xa na ca, .int .i64 r, .int .i64 p, strV t] rfl rfl rfl rfl rfl ?_
  intro W2 g3 eg3 r4 z5 b1
  replace q := Zu q b1; have l6 := r4.lt
  refine LL.alloc ([.int .i64 0, .int .i64 0, .int .i64 0, .slice none 0 0, .int .i64 0, .int .i64 0, .string { data := { toList := [] } }]) rfl rfl rfl rfl rfl ?_
  intro W8 g9 eg9 r10 z11 b7
  replace r4 := r4.up b7; replace b1 := Zu b1 b7; replace q := Zu q b7; refine Zq ?_; refine Zr ?_; refine Zf ?_; refine Zl r4 ?_; refine Zf ?_; refine Zl r4 ?_; refine Zf ?_; refine Zl r4 ?_; refine Zf ?_; refine Zl r4 ?_
  refine LL.val (R.buildV rfl rfl (v := .agg #[Value.int IntKind.i64 k, Value.int IntKind.i64 l, Value.int IntKind.i64 0, Value.slice none 0 0, Value.int IntKind.i64 r, Value.int IntKind.i64 p, Value.string { data := #[] }]) (fun _ => by kernel_rfl)) rfl rfl rfl ?_
  refine LL.storeN (vs := [.int .i64 k, .int .i64 l, .int .i64 0, .slice none 0 0, .int .i64 r, .int .i64 p, .string { data := #[] }]) rfl rfl rfl rfl r10 (by exact Nat.le_of_ble_eq_true rfl) (ones_of rfl) rfl rfl ?_
  intro W13 r14 b12 z15
  have hlb12 := r10.lt
  replace r14 : RowL W13 _ 25 [.int .i64 k, .int .i64 l, .int .i64 0, .slice none 0 0, .int .i64 r, .int .i64 p, .string { data := #[] }] := r14
  clear r10
  replace b7 := Zg b7 b12; replace r4 := Zd r4 b12; replace b1 := Zg b1 b12; replace q := Zg q b12
  have r10 := r14
  clear r14
  refine Zq ?_; refine ZR ?_
  refine EE.retC rfl rfl (lvNc (RowL.cells0 (by assumption)) (by rfl) (by rfl)) ?_
  exact ⟨rfl, q⟩
theorem nm3_any (w : World) (ha : ∃ x n c, a = .slice x n c) : Calls Tryd.prog 70 #[inV k l z a r p t] w fun e w' => e = .returned (inV k l 0 (.slice none 0 0) 0 0 t) ∧ Below w.heap.size w w' := by
  have q := Below.refl w.heap.size w
  obtain ⟨xa, na, ca, rfl⟩ := ha
  refine X.fn Tryd.func70 rfl (n := 10) rfl rfl ?_
  refine Zr ?_
  refine LL.box [.int .i64 k, .int .i64 l, .int .i64 z, .slice xa na ca, .int .i64 r, .int .i64 p, strV t] rfl rfl rfl rfl rfl ?_
  intro W2 g3 eg3 r4 z5 b1
  replace q := Zu q b1; have l6 := r4.lt
  refine LL.alloc ([.int .i64 0, .int .i64 0, .int .i64 0, .slice none 0 0, .int .i64 0, .int .i64 0, .string { data := { toList := [] } }]) rfl rfl rfl rfl rfl ?_
  intro W8 g9 eg9 r10 z11 b7
  replace r4 := r4.up b7; replace b1 := Zu b1 b7; replace q := Zu q b7; refine Zq ?_; refine Zr ?_; refine Zf ?_; refine Zl r4 ?_; refine Zf ?_; refine Zl r4 ?_; refine Zf ?_; refine Zl r4 ?_
  refine LL.val (R.buildV rfl rfl (v := .agg #[Value.int IntKind.i64 k, Value.int IntKind.i64 l, Value.int IntKind.i64 0, Value.slice none 0 0, Value.int IntKind.i64 0, Value.int IntKind.i64 0, Value.string { data := List.toArray t }]) (fun _ => by kernel_rfl)) rfl rfl rfl ?_
  refine LL.storeN (vs := [.int .i64 k, .int .i64 l, .int .i64 0, .slice none 0 0, .int .i64 0, .int .i64 0, .string { data := List.toArray t }]) rfl rfl rfl rfl r10 (by exact Nat.le_of_ble_eq_true rfl) (ones_of rfl) rfl rfl ?_
  intro W13 r14 b12 z15
  have hlb12 := r10.lt
  replace r14 : RowL W13 _ 25 [.int .i64 k, .int .i64 l, .int .i64 0, .slice none 0 0, .int .i64 0, .int .i64 0, .string { data := List.toArray t }] := r14
  clear r10
  replace b7 := Zg b7 b12; replace r4 := Zd r4 b12; replace b1 := Zg b1 b12; replace q := Zg q b12
  have r10 := r14
  clear r14
  refine Zq ?_; refine ZR ?_
  refine EE.retC rfl rfl (lvNc (RowL.cells0 (by assumption)) (by rfl) (by rfl)) ?_
  exact ⟨rfl, q⟩
theorem my0_any (w : World) (ha : ∃ x n c, a = .slice x n c) : Calls Tryd.prog 58 #[inV k l z a r p t] w fun e w' => e = .returned (.bool true) ∧ Below w.heap.size w w' := by
  have q := Below.refl w.heap.size w
  obtain ⟨xa, na, ca, rfl⟩ := ha
  refine X.fn Tryd.func58 rfl (n := 3) rfl rfl ?_
  refine Zr ?_
  refine LL.box [.int .i64 k, .int .i64 l, .int .i64 z, .slice xa na ca, .int .i64 r, .int .i64 p, strV t] rfl rfl rfl rfl rfl ?_
  intro W2 g3 eg3 r4 z5 b1
  replace q := Zu q b1; refine Za ?_; refine Zq ?_; refine Zr ?_; refine Za ?_; refine Zq ?_; refine ZR ?_; refine EE.ret _ rfl rfl ?_
  exact ⟨rfl, q⟩
theorem my2_T (w : World) (ha : ∃ x n c, a = .slice x n c) (h : (1 ≤ r ∧ r ≤ 2047) ∧ 1 ≤ p ∧ p ≤ 256) : Calls Tryd.prog 66 #[inV k l z a r p t] w fun e w' => e = .returned (.bool true) ∧ Below w.heap.size w w' := by
  have q := Below.refl w.heap.size w
  obtain ⟨xa, na, ca, rfl⟩ := ha
  refine X.fn Tryd.func66 rfl (n := 13) rfl rfl ?_
  refine Zr ?_
  refine LL.box [.int .i64 k, .int .i64 l, .int .i64 z, .slice xa na ca, .int .i64 r, .int .i64 p, strV t] rfl rfl rfl rfl rfl ?_
  intro W2 g3 eg3 r4 z5 b1
  replace q := Zu q b1; refine Za ?_; refine Zq ?_; refine Zr ?_; refine Zf ?_; refine Zf ?_; refine Zl r4 ?_
  (refine Zy (R.call rfl rfl rfl) (within_T _ _ _ _ (by omega)) ?_; rintro e _ ⟨rfl, rfl⟩; refine ⟨_, rfl, ?_⟩)
  refine Zm ?_; refine Zf ?_; refine Zf ?_; refine Zl r4 ?_
  (refine Zy (R.call rfl rfl rfl) (within_T _ _ _ _ (by omega)) ?_; rintro e _ ⟨rfl, rfl⟩; refine ⟨_, rfl, ?_⟩)
  refine Zp ?_; refine Za ?_; refine Zq ?_; refine ZR ?_; refine EE.ret _ rfl rfl ?_
  exact ⟨rfl, q⟩
end
set_option linter.unusedVariables false
set_option linter.unusedSimpArgs false
set_option maxRecDepth 100000
set_option maxHeartbeats 8000000
def fitF (z : Int) (m : List Ex) : Prop := ∀ x ∈ m, x.1 + x.2.2 ≤ (z + 511) / 512
def okF (z : Int) (m : List Ex) : Prop := (0 ≤ z ∧ z ≤ 65536) ∧ vL m ∧ fitF z m
section
variable (k l z : Int) (a : Value) (r p : Int) (t : Bs)
theorem my2_F (w : World) (ha : ∃ x n c, a = .slice x n c) (h : ¬((1 ≤ r ∧ r ≤ 2047) ∧ 1 ≤ p ∧ p ≤ 256)) : Calls Tryd.prog 66 #[inV k l z a r p t] w fun e w' => e = .returned (.bool false) ∧ Below w.heap.size w w' := by
  have q := Below.refl w.heap.size w
  obtain ⟨xa, na, ca, rfl⟩ := ha
  by_cases h1 : 1 ≤ r ∧ r ≤ 2047
  · have h2 : p < 1 ∨ 256 < p := by omega
    refine X.fn Tryd.func66 rfl (n := 13) rfl rfl ?_
    refine Zr ?_
    refine LL.box [.int .i64 k, .int .i64 l, .int .i64 z, .slice xa na ca, .int .i64 r, .int .i64 p, strV t] rfl rfl rfl rfl rfl ?_
    intro W2 g3 eg3 r4 z5 b1
    replace q := Zu q b1; refine Za ?_; refine Zq ?_; refine Zr ?_; refine Zf ?_; refine Zf ?_; refine Zl r4 ?_
    (refine Zy (R.call rfl rfl rfl) (within_T r 1 2047 _ h1) ?_; rintro e _ ⟨rfl, rfl⟩; refine ⟨_, rfl, ?_⟩)
    refine Zm ?_; refine Zf ?_; refine Zf ?_; refine Zl r4 ?_
    (refine Zy (R.call rfl rfl rfl) (within_F p 1 256 _ h2) ?_; rintro e _ ⟨rfl, rfl⟩; refine ⟨_, rfl, ?_⟩)
    refine Zp ?_; refine Za ?_; refine Zq ?_; refine ZR ?_; refine EE.ret _ rfl rfl ?_
    exact ⟨rfl, q⟩
  · have h2 : r < 1 ∨ 2047 < r := by omega
    refine X.fn Tryd.func66 rfl (n := 13) rfl rfl ?_
    refine Zr ?_
    refine LL.box [.int .i64 k, .int .i64 l, .int .i64 z, .slice xa na ca, .int .i64 r, .int .i64 p, strV t] rfl rfl rfl rfl rfl ?_
    intro Wa2 ga3 ega3 ra4 za5 ba1
    replace q := Zu q ba1; refine Za ?_; refine Zq ?_; refine Zr ?_; refine Zf ?_; refine Zf ?_; refine Zl ra4 ?_
    (refine Zy (R.call rfl rfl rfl) (within_F r 1 2047 _ h2) ?_; rintro e _ ⟨rfl, rfl⟩; refine ⟨_, rfl, ?_⟩)
    refine Zm ?_; refine Zs ?_; refine Zs ?_; refine Zs ?_; refine Zs ?_; refine Zp ?_; refine Za ?_; refine Zq ?_; refine ZR ?_; refine EE.ret _ rfl rfl ?_
    exact ⟨rfl, q⟩
theorem my3_T (w : World) (ha : ∃ x n c, a = .slice x n c) (h : (1 ≤ t.length ∧ t.length ≤ 112) ∧ (0 : UInt8) ∉ t) : Calls Tryd.prog 71 #[inV k l z a r p t] w fun e w' => e = .returned (.bool true) ∧ Below w.heap.size w w' := by
  have q := Below.refl w.heap.size w
  obtain ⟨xa, na, ca, rfl⟩ := ha
  have hm : Lib.indexByte t 0 < 0 := by
    have := idx_mem t 0
    rcases Int.lt_or_le (Lib.indexByte t 0) 0 with h0 | h0
    · exact h0
    · exact absurd (this.1 h0) h.2
  refine X.fn Tryd.func71 rfl (n := 15) rfl rfl ?_
  refine Zr ?_
  refine LL.box [.int .i64 k, .int .i64 l, .int .i64 z, .slice xa na ca, .int .i64 r, .int .i64 p, strV t] rfl rfl rfl rfl rfl ?_
  intro W2 g3 eg3 r4 z5 b1
  replace q := Zu q b1; refine Za ?_; refine Zq ?_; refine Zr ?_; refine Zf ?_; refine Zf ?_; refine Zl r4 ?_
  refine LL.val (R.lenS rfl rfl rfl rfl) rfl rfl rfl ?_
  (refine Zy (R.call rfl rfl rfl) (within_T (t.length : Int) 1 112 _ (by omega)) ?_; rintro e _ ⟨rfl, rfl⟩; refine ⟨_, rfl, ?_⟩)
  refine Zm ?_; refine Zf ?_; refine Zf ?_; refine Zl r4 ?_
  refine Zy (R.call rfl rfl rfl) (idx_any _ _) ?_
  rintro e W' ⟨rfl, rfl⟩
  refine ⟨_, rfl, ?_⟩; refine ZltT ?_; refine Zp ?_; refine Za ?_; refine Zq ?_; refine ZR ?_; refine EE.ret _ rfl rfl ?_
  exact ⟨rfl, q⟩
theorem my3_F (w : World) (ha : ∃ x n c, a = .slice x n c) (hl : t.length ≤ 1048576) (h : ¬((1 ≤ t.length ∧ t.length ≤ 112) ∧ (0 : UInt8) ∉ t)) : Calls Tryd.prog 71 #[inV k l z a r p t] w fun e w' => e = .returned (.bool false) ∧ Below w.heap.size w w' := by
  have q := Below.refl w.heap.size w
  obtain ⟨xa, na, ca, rfl⟩ := ha
  by_cases h1 : 1 ≤ t.length ∧ t.length ≤ 112
  · have hm : 0 ≤ Lib.indexByte t 0 := (idx_mem t 0).2 (Classical.not_not.1 fun h2 => h ⟨h1, h2⟩)
    refine X.fn Tryd.func71 rfl (n := 15) rfl rfl ?_
    refine Zr ?_
    refine LL.box [.int .i64 k, .int .i64 l, .int .i64 z, .slice xa na ca, .int .i64 r, .int .i64 p, strV t] rfl rfl rfl rfl rfl ?_
    intro W2 g3 eg3 r4 z5 b1
    replace q := Zu q b1; refine Za ?_; refine Zq ?_; refine Zr ?_; refine Zf ?_; refine Zf ?_; refine Zl r4 ?_
    refine LL.val (R.lenS rfl rfl rfl rfl) rfl rfl rfl ?_
    (refine Zy (R.call rfl rfl rfl) (within_T (t.length : Int) 1 112 _ (by omega)) ?_; rintro e _ ⟨rfl, rfl⟩; refine ⟨_, rfl, ?_⟩)
    refine Zm ?_; refine Zf ?_; refine Zf ?_; refine Zl r4 ?_
    refine Zy (R.call rfl rfl rfl) (idx_any _ _) ?_
    rintro e W' ⟨rfl, rfl⟩
    refine ⟨_, rfl, ?_⟩; refine ZltF ?_; refine Zp ?_; refine Za ?_; refine Zq ?_; refine ZR ?_; refine EE.ret _ rfl rfl ?_
    exact ⟨rfl, q⟩
  · clear h
    refine X.fn Tryd.func71 rfl (n := 15) rfl rfl ?_
    refine Zr ?_
    refine LL.box [.int .i64 k, .int .i64 l, .int .i64 z, .slice xa na ca, .int .i64 r, .int .i64 p, strV t] rfl rfl rfl rfl rfl ?_
    intro Wa2 ga3 ega3 ra4 za5 ba1
    replace q := Zu q ba1; refine Za ?_; refine Zq ?_; refine Zr ?_; refine Zf ?_; refine Zf ?_; refine Zl ra4 ?_
    refine LL.val (R.lenS rfl rfl rfl rfl) rfl rfl rfl ?_
    (refine Zy (R.call rfl rfl rfl) (within_F (t.length : Int) 1 112 _ (by omega)) ?_; rintro e _ ⟨rfl, rfl⟩; refine ⟨_, rfl, ?_⟩)
    refine Zm ?_; refine Zs ?_; refine Zs ?_; refine Zs ?_; refine Zs ?_; refine Zs ?_; refine Zp ?_; refine Za ?_; refine Zq ?_; refine ZR ?_; refine EE.ret _ rfl rfl ?_
    exact ⟨rfl, q⟩
end
theorem my1_bad (k l z : Int) (x : Option Addr) (n c : Nat) (r p : Int) (t : Bs) (m : List Ex) (w : World) (hv : ReadsT eE 3 w (.slice x n c) m) (hlen : m.length ≤ 1048576) (h : z < 0 ∨ 65536 < z ∨ ¬vL m) : Calls Tryd.prog 62 #[inV k l z (.slice x n c) r p t] w fun e w' => e = .returned (.bool false) ∧ Below w.heap.size w w' := by
  have q := Below.refl w.heap.size w
  have hvF : ∀ X, Below w.heap.size w X → ReadsT eE 3 X (.slice x n c) m := fun X b => hv.up b
  clear hv
  by_cases h1 : 0 ≤ z ∧ z ≤ 65536
  · have hm : ¬vL m := by rcases h with h | h | h; omega; omega; exact h
    clear h
    refine X.fn Tryd.func62 rfl (n := 38) rfl rfl ?_
    refine Zr ?_
    refine LL.box [.int .i64 k, .int .i64 l, .int .i64 z, .slice x n c, .int .i64 r, .int .i64 p, strV t] rfl rfl rfl rfl rfl ?_
    intro W2 g3 eg3 r4 z5 b1
    replace q := Zu q b1; refine Za ?_; refine Zq ?_; refine Zc ?_; refine Zr ?_; refine Zf ?_; refine Zf ?_; refine Zl r4 ?_
    refine Zy (R.call rfl rfl rfl) (within_T _ _ _ _ (by first | assumption | omega)) ?_
    rintro e W' ⟨rfl, rfl⟩
    refine ⟨_, rfl, ?_⟩; refine Zt ?_; refine Zm ?_; refine Zf ?_; refine Zf ?_; refine Zl r4 ?_
    refine Zy (R.call rfl rfl rfl) (check_F _ m _ (hvF _ q) hlen hm) ?_
    rintro e W7 ⟨rfl, b6⟩
    refine ⟨_, rfl, ?_⟩; have zb6 := b6.size; replace r4 := r4.up b6; replace b1 := Zu b1 b6; replace q := Zu q b6; refine ZneT ?_; refine Zp ?_; refine Zq ?_; refine ZY ?_; refine Zr ?_; refine Za ?_; refine Zq ?_; refine ZR ?_; refine EE.thenR ?_; refine EE.ret _ rfl rfl ?_
    exact ⟨rfl, q⟩
  · clear h
    refine X.fn Tryd.func62 rfl (n := 38) rfl rfl ?_
    refine Zr ?_
    refine LL.box [.int .i64 k, .int .i64 l, .int .i64 z, .slice x n c, .int .i64 r, .int .i64 p, strV t] rfl rfl rfl rfl rfl ?_
    intro Wa2 ga3 ega3 ra4 za5 ba1
    replace q := Zu q ba1; refine Za ?_; refine Zq ?_; refine Zc ?_; refine Zr ?_; refine Zf ?_; refine Zf ?_; refine Zl ra4 ?_
    refine Zy (R.call rfl rfl rfl) (within_F _ _ _ _ (by first | assumption | omega)) ?_
    rintro e W' ⟨rfl, rfl⟩
    refine ⟨_, rfl, ?_⟩; refine Zt ?_; refine Zm ?_; refine Zs ?_; refine Zs ?_; refine Zs ?_; refine Zs ?_; refine Zs ?_; refine Zp ?_; refine Zq ?_; refine ZY ?_; refine Zr ?_; refine Za ?_; refine Zq ?_; refine ZR ?_; refine EE.thenR ?_; refine EE.ret _ rfl rfl ?_
    exact ⟨rfl, q⟩
theorem my1_any (k l z : Int) (x : Option Addr) (n c : Nat) (r p : Int) (t : Bs) (m : List Ex) (w : World) (hv : ReadsT eE 3 w (.slice x n c) m) (hz : 0 ≤ z ∧ z ≤ 65536) (hm : vL m) (b : Bool) (hb : b = true ↔ fitF z m) : Calls Tryd.prog 62 #[inV k l z (.slice x n c) r p t] w fun e w' => e = .returned (.bool b) ∧ Below w.heap.size w w' := by
  have q := Below.refl w.heap.size w
  have hvF : ∀ X, Below w.heap.size w X → ReadsT eE 3 X (.slice x n c) m := fun X b => hv.up b
  have hlen : m.length ≤ 1048576 := by have := hm.1; omega
  have hn : m.length = n := by obtain ⟨_, _, e, _⟩ := hv; cases e; rfl
  have hn10 : n ≤ 10 := by have := hm.1; omega
  clear hv
  obtain ⟨z, rfl⟩ : ∃ y : Nat, z = (y : Int) := ⟨z.toNat, by omega⟩
  refine X.fn Tryd.func62 rfl (n := 38) rfl rfl ?_
  refine Zr ?_
  refine LL.box [.int .i64 k, .int .i64 l, .int .i64 ↑z, .slice x n c, .int .i64 r, .int .i64 p, strV t] rfl rfl rfl rfl rfl ?_
  intro W2 g3 eg3 r4 z5 b1
  replace q := Zu q b1; refine Za ?_; refine Zq ?_; refine Zc ?_; refine Zr ?_; refine Zf ?_; refine Zf ?_; refine Zl r4 ?_
  refine Zy (R.call rfl rfl rfl) (within_T _ _ _ _ (by first | assumption | omega)) ?_
  rintro e W' ⟨rfl, rfl⟩
  refine ⟨_, rfl, ?_⟩; refine Zt ?_; refine Zm ?_; refine Zf ?_; refine Zf ?_; refine Zl r4 ?_
  refine Zy (R.call rfl rfl rfl) (check_T _ m _ (hvF _ q) hlen hm) ?_
  rintro e W7 ⟨rfl, b6⟩
  refine ⟨_, rfl, ?_⟩; have zb6 := b6.size; replace r4 := r4.up b6; replace b1 := Zu b1 b6; replace q := Zu q b6; refine ZneF ?_; refine Zp ?_; refine Zq ?_; refine ZN ?_; refine ZK ?_; refine ZT ?_; refine Zc ?_; refine Zr ?_; refine Zf ?_; refine Zf ?_; refine Zl r4 ?_; refine Zn ?_; refine Zm ?_; refine Zq ?_; refine CC.block ?_
  refine CC.loop (α := Nat) (fun i => [(1, .pointer (some ⟨g3, 0, none⟩)), (19, .slice x n c), (20, .int .i64 (n : Int)), (21, .int .i64 (i : Int))]) (fun i W => i ≤ n ∧ Below w.heap.size w W ∧ RowL W g3 72 (inL k l (z : Int) (.slice x n c) r p t) ∧ ∀ j, j < i → ∀ x, m[j]? = some x → x.1 + x.2.2 ≤ ((z : Int) + 511) / 512) (fun i => n - i) 0 ⟨rfl, rfl, rfl, rfl, trivial⟩ ⟨Nat.zero_le _, q, r4, fun j h => by omega⟩ ?_
  clear q r4 b1 b6
  rintro i W ⟨hi, q, r4, hall⟩
  have yw := q.size
  show CC none Tryd.prog _ 38 [] (sl [(1, .pointer (some ⟨g3, 0, none⟩)), (19, .slice x n c), (20, .int .i64 (n : Int)), (21, .int .i64 (i : Int))]) _ W
  by_cases hlt : i < n
  case neg =>
    have hbt : b = true := hb.2 fun y hy => by
      obtain ⟨j, hj⟩ := List.mem_iff_getElem?.1 hy
      exact hall j (by have := (List.getElem?_eq_some_iff.1 hj).1; omega) y hj
    subst hbt
    clear hall
    refine Zr ?_; refine ZltF ?_; refine Zq ?_; refine Zc ?_; refine ZN ?_; refine CC.exit ?_; refine EE.thenX ?_; refine EE.thenX ?_; refine EE.inX ?_; refine ZT ?_; refine Zr ?_; refine Za ?_; refine Zq ?_; refine ZR ?_; refine EE.ret _ rfl rfl ?_
    exact ⟨rfl, q⟩
  obtain ⟨⟨e1, e2, e3⟩, hget⟩ : ∃ x, m[i]? = some x := ⟨_, List.getElem?_eq_getElem (by omega)⟩
  have he : mayE (e1, e2, e3) := hm.2.1 _ (List.mem_of_getElem? hget)
  simp only [mayE] at he
  obtain ⟨e1, rfl⟩ : ∃ y : Nat, e1 = (y : Int) := ⟨e1.toNat, by omega⟩
  obtain ⟨e3, rfl⟩ : ∃ y : Nat, e3 = (y : Int) := ⟨e3.toNat, by omega⟩
  obtain ⟨bs, os, rfl, lbs, _⟩ := (hvF w (Below.refl _ _)).get eEnc hget
  have m1 : CellsN W ⟨bs, os + i * 3, none⟩ 3 [.int .i64 (e1 : Int), .int .i64 e2, .int .i64 (e3 : Int)] := (hvF W q).elemN eEnc hget
  have hu := r4.lt
  by_cases hf : (e1 : Int) + (e3 : Int) ≤ ((z : Int) + 511) / 512
  · have hall2 : ∀ j, j < i + 1 → ∀ x, m[j]? = some x → x.1 + x.2.2 ≤ ((z : Int) + 511) / 512 := fun j hj y hy => by
      by_cases hj2 : j < i
      · exact hall j hj2 y hy
      · obtain rfl : j = i := by omega
        rw [hget] at hy
        rw [← Option.some.inj hy]
        exact hf
    clear hall
    refine Zr ?_; refine ZltT ?_; refine Zq ?_; refine Zc ?_; refine ZY ?_; refine ZK ?_; refine ZT ?_; refine Zc ?_; refine CC.block ?_; refine Zr ?_
    refine LL.val (R.index rfl rfl rfl (I.ixS rfl (by omega))) rfl rfl rfl ?_
    refine LL.val (R.load rfl rfl (I.ldM (by assumption) rfl rfl)) rfl rfl rfl ?_
    have lb1 := r4.lt
    refine LL.alloc ([.int .i64 0, .int .i64 0, .int .i64 0]) rfl rfl rfl rfl rfl ?_
    intro Wb3 gb4 egb4 rb5 zb6 bb2
    replace q := Zu q bb2; replace r4 := r4.up bb2; replace m1 := m1.up bb2
    refine LL.storeN (vs := [.int .i64 ↑e1, .int .i64 e2, .int .i64 ↑e3]) rfl rfl rfl rfl rb5 (by exact Nat.le_of_ble_eq_true rfl) (ones_of rfl) rfl rfl ?_
    intro Wb8 rb9 bb7 zb10
    have hlbb7 := rb5.lt
    replace rb9 : RowL Wb8 _ 98 [Value.int IntKind.i64 ↑e1, Value.int IntKind.i64 e2, Value.int IntKind.i64 ↑e3] := rb9
    clear rb5
    replace bb2 := bb2.grown bb7 bb2.size (by rintro k ⟨⟩; omega)
    replace q := q.grown bb7 q.size (by rintro k ⟨⟩; omega)
    replace r4 := r4.gr bb7 (by have := r4.lt; omega)
    replace m1 := m1.gr bb7 (by have := m1.lt; omega)
    have rb5 := rb9
    clear rb9
    refine Zq ?_; refine Zr ?_; refine Zf ?_; refine Zl rb5 ?_; refine Zf ?_; refine Zl rb5 ?_
    refine LL.val (R.addN rfl rfl rfl (by omega)) rfl rfl rfl ?_
    refine Zf ?_; refine Zf ?_; refine Zl r4 ?_
    refine LL.val (R.addNc rfl rfl rfl rfl (by omega)) rfl rfl rfl ?_
    refine LL.val (R.subNc rfl rfl rfl rfl (by omega) (by omega)) rfl rfl rfl ?_
    refine LL.val (R.quoNc rfl rfl rfl rfl (by omega) (by omega)) rfl rfl rfl ?_
    refine ZgtF ?_; refine Zq ?_; refine ZN ?_; refine ZK ?_; refine EE.inN ?_; refine ZT ?_; refine CC.region ?_
    refine LL.val (R.addNc rfl rfl rfl rfl (by omega)) rfl rfl rfl ?_
    refine Zm ?_; refine ZL ?_
    exact EE.round (i + 1) ⟨rfl, rfl, rfl, rfl, trivial⟩ ⟨by omega, q, r4, hall2⟩ (by omega)
  · have hbt : b = false := by
      cases b with
      | false => rfl
      | true => exact absurd (hb.1 rfl _ (List.mem_of_getElem? hget)) hf
    subst hbt
    clear hall
    refine Zr ?_; refine ZltT ?_; refine Zq ?_; refine Zc ?_; refine ZY ?_; refine ZK ?_; refine ZT ?_; refine Zc ?_; refine CC.block ?_; refine Zr ?_
    refine LL.val (R.index rfl rfl rfl (I.ixS rfl (by omega))) rfl rfl rfl ?_
    refine LL.val (R.load rfl rfl (I.ldM (by assumption) rfl rfl)) rfl rfl rfl ?_
    have lc1 := r4.lt
    refine LL.alloc ([.int .i64 0, .int .i64 0, .int .i64 0]) rfl rfl rfl rfl rfl ?_
    intro Wc3 gc4 egc4 rc5 zc6 bc2
    replace q := Zu q bc2; replace r4 := r4.up bc2; replace m1 := m1.up bc2
    refine LL.storeN (vs := [.int .i64 ↑e1, .int .i64 e2, .int .i64 ↑e3]) rfl rfl rfl rfl rc5 (by exact Nat.le_of_ble_eq_true rfl) (ones_of rfl) rfl rfl ?_
    intro Wc8 rc9 bc7 zc10
    have hlbc7 := rc5.lt
    replace rc9 : RowL Wc8 _ 98 [Value.int IntKind.i64 ↑e1, Value.int IntKind.i64 e2, Value.int IntKind.i64 ↑e3] := rc9
    clear rc5
    replace bc2 := bc2.grown bc7 bc2.size (by rintro k ⟨⟩; omega)
    replace q := q.grown bc7 q.size (by rintro k ⟨⟩; omega)
    replace r4 := r4.gr bc7 (by have := r4.lt; omega)
    replace m1 := m1.gr bc7 (by have := m1.lt; omega)
    have rc5 := rc9
    clear rc9
    refine Zq ?_; refine Zr ?_; refine Zf ?_; refine Zl rc5 ?_; refine Zf ?_; refine Zl rc5 ?_
    refine LL.val (R.addN rfl rfl rfl (by omega)) rfl rfl rfl ?_
    refine Zf ?_; refine Zf ?_; refine Zl r4 ?_
    refine LL.val (R.addNc rfl rfl rfl rfl (by omega)) rfl rfl rfl ?_
    refine LL.val (R.subNc rfl rfl rfl rfl (by omega) (by omega)) rfl rfl rfl ?_
    refine LL.val (R.quoNc rfl rfl rfl rfl (by omega) (by omega)) rfl rfl rfl ?_
    refine ZgtT ?_; refine Zq ?_; refine ZY ?_; refine Zr ?_; refine Za ?_; refine Zq ?_; refine ZR ?_; refine EE.inR ?_; refine EE.thenR ?_; refine EE.thenR ?_; refine EE.inR ?_; refine EE.thenR ?_; refine EE.ret _ rfl rfl ?_
    exact ⟨rfl, q⟩
set_option linter.unusedVariables false
set_option linter.unusedSimpArgs false
set_option maxRecDepth 100000
set_option maxHeartbeats 8000000
theorem eqx_any (va vb : Value) (xs ys : List Ex) (w : World) (ha : ReadsT eE 3 w va xs) (hb : ReadsT eE 3 w vb ys) (hlx : xs.length ≤ 1048576) (hly : ys.length ≤ 1048576) :
    Calls Tryd.prog 48 #[va, vb] w fun e w' => e = .returned (.bool (decide (xs = ys))) ∧ Below w.heap.size w w' := by
  have q := Below.refl w.heap.size w
  obtain ⟨N, hN⟩ : ∃ N, xs.length = N := ⟨_, rfl⟩
  obtain ⟨N2, hN2⟩ : ∃ N, ys.length = N := ⟨_, rfl⟩
  obtain ⟨a, cap, rfl, hc⟩ := ha.form hN
  obtain ⟨a2, cap2, rfl, hc2⟩ := hb.form hN2
  rw [hN] at hlx
  rw [hN2] at hly
  have haF : ∀ W, Below w.heap.size w W → ReadsT eE 3 W (.slice a N cap) xs := fun W h => ha.up h
  have hbF : ∀ W, Below w.heap.size w W → ReadsT eE 3 W (.slice a2 N2 cap2) ys := fun W h => hb.up h
  clear ha hb
  by_cases hne : N = N2
  case neg =>
    rw [decide_eq_false (fun e => hne (by rw [← hN, ← hN2, e]))]
    refine X.fn Tryd.func48 rfl (n := 26) rfl rfl ?_
    refine Zr ?_; refine Za ?_; refine Zq ?_; refine Zc ?_; refine Zr ?_; refine Zm ?_; refine Zn ?_; refine Zm ?_; refine Zn ?_; refine ZneT ?_; refine Zq ?_; refine ZY ?_; refine Zr ?_; refine Za ?_; refine Zq ?_; refine ZR ?_; refine EE.thenR ?_; refine EE.ret _ rfl rfl ?_
    exact ⟨rfl, q⟩
  subst hne
  refine X.fn Tryd.func48 rfl (n := 26) rfl rfl ?_
  refine Zr ?_; refine Za ?_; refine Zq ?_; refine Zc ?_; refine Zr ?_; refine Zm ?_; refine Zn ?_; refine Zm ?_; refine Zn ?_; refine ZneF ?_; refine Zq ?_; refine ZN ?_; refine ZK ?_; refine ZT ?_; refine Zc ?_; refine Zr ?_; refine Zm ?_; refine Zn ?_; refine Zm ?_; refine Zq ?_; refine CC.block ?_
  refine CC.loop (α := Nat) (fun i => [(0, .slice a N cap), (1, .slice a2 N cap2), (12, .int .i64 (N : Int)), (13, .int .i64 (i : Int))]) (fun i W => i ≤ N ∧ Below w.heap.size w W ∧ xs.take i = ys.take i) (fun i => N - i) 0 ⟨rfl, rfl, rfl, rfl, trivial⟩ ⟨by omega, q, by simp⟩ ?_
  clear q
  rintro i W ⟨hi, q, ht⟩
  show CC none Tryd.prog _ 26 [] (sl [(0, .slice a N cap), (1, .slice a2 N cap2), (12, .int .i64 (N : Int)), (13, .int .i64 (i : Int))]) _ W
  have yq := q.size
  by_cases hlt : i < N
  case neg =>
    obtain rfl : i = N := by omega
    rw [List.take_of_length_le (by omega), List.take_of_length_le (by omega)] at ht
    rw [decide_eq_true ht]
    refine Zr ?_; refine ZltF ?_; refine Zq ?_; refine Zc ?_; refine ZN ?_; refine CC.exit ?_; refine EE.thenX ?_; refine EE.thenX ?_; refine EE.inX ?_; refine ZT ?_; refine Zr ?_; refine Za ?_; refine Zq ?_; refine ZR ?_; refine EE.ret _ rfl rfl ?_
    exact ⟨rfl, q⟩
  obtain ⟨x, hx⟩ : ∃ x, xs[i]? = some x := ⟨_, List.getElem?_eq_getElem (by omega)⟩
  obtain ⟨y, hy⟩ : ∃ y, ys[i]? = some y := ⟨_, List.getElem?_eq_getElem (by omega)⟩
  obtain ⟨bk, off, rfl, hbk, hcs⟩ := (haF W q).get eEnc hx
  obtain ⟨bk2, off2, rfl, hbk2, hcs2⟩ := (hbF W q).get eEnc hy
  have hcs : Cells W ⟨bk, off + i * 3, none⟩ [.int .i64 x.1, .int .i64 x.2.1, .int .i64 x.2.2] := hcs
  have hcs2 : Cells W ⟨bk2, off2 + i * 3, none⟩ [.int .i64 y.1, .int .i64 y.2.1, .int .i64 y.2.2] := hcs2
  by_cases he : x.1 = y.1 ∧ x.2.1 = y.2.1 ∧ x.2.2 = y.2.2
  · have hxy : x = y := Prod.ext he.1 (Prod.ext he.2.1 he.2.2)
    have ht' : xs.take (i + 1) = ys.take (i + 1) := by rw [List.take_add_one, List.take_add_one, ht, hx, hy, hxy]
    refine Zr ?_; refine ZltT ?_; refine Zq ?_; refine Zc ?_; refine ZY ?_; refine ZK ?_; refine ZT ?_; refine Zc ?_; refine CC.block ?_; refine Zr ?_; refine Zm ?_; refine Za ?_; refine Zq ?_; refine Zc ?_
    refine CC.quietB (by kernel_rfl) (by kernel_rfl) (fun Wc2 bc1 zc3 => ?_)
    replace q := Zu q bc1; replace hcs := hcs.up bc1; replace hcs2 := hcs2.up bc1
    refine SS.val (R.move rfl rfl) rfl rfl ?_
    refine SS.val (R.move rfl rfl) rfl rfl ?_
    refine SS.val (R.index rfl rfl rfl (I.ixS rfl (by omega))) rfl rfl ?_
    refine SS.val (R.load rfl rfl (I.ldNc (by assumption) rfl rfl)) rfl rfl ?_
    refine SS.val (R.move rfl rfl) rfl rfl ?_
    refine SS.val (R.move rfl rfl) rfl rfl ?_
    refine SS.val (R.index rfl rfl rfl (I.ixS rfl (by omega))) rfl rfl ?_
    refine SS.val (R.load rfl rfl (I.ldNc (by assumption) rfl rfl)) rfl rfl ?_
    refine SS.val (R.neST (p := (x.1 : Int) = y.1 ∧ (x.2.1 : Int) = y.2.1 ∧ (x.2.2 : Int) = y.2.2) (bs := [decide ((x.1 : Int) = y.1), decide ((x.2.1 : Int) = y.2.1), decide ((x.2.2 : Int) = y.2.2)]) rfl rfl rfl rfl (by kernel_rfl) (by kernel_rfl) (by simp) (by first | assumption | omega | exact ⟨rfl, rfl⟩ | exact fun h => h ⟨rfl, rfl⟩)) rfl rfl ?_
    refine SS.nilQ ?_
    refine ZT ?_; refine ZN ?_; refine ZK ?_; refine EE.inN ?_; refine ZT ?_; refine CC.region ?_
    refine LL.val (R.addNc rfl rfl rfl rfl (by omega)) rfl rfl rfl ?_
    refine Zm ?_; refine ZL ?_
    exact EE.round (i + 1) ⟨rfl, rfl, rfl, rfl, trivial⟩ ⟨by omega, q, ht'⟩ (by omega)
  · rw [decide_eq_false (fun e => he (by rw [e, hy] at hx; cases hx; exact ⟨rfl, rfl, rfl⟩))]
    refine Zr ?_; refine ZltT ?_; refine Zq ?_; refine Zc ?_; refine ZY ?_; refine ZK ?_; refine ZT ?_; refine Zc ?_; refine CC.block ?_; refine Zr ?_; refine Zm ?_; refine Za ?_; refine Zq ?_; refine Zc ?_
    refine CC.quietB (by kernel_rfl) (by kernel_rfl) (fun Wd2 bd1 zd3 => ?_)
    replace q := Zu q bd1; replace hcs := hcs.up bd1; replace hcs2 := hcs2.up bd1
    refine SS.val (R.move rfl rfl) rfl rfl ?_
    refine SS.val (R.move rfl rfl) rfl rfl ?_
    refine SS.val (R.index rfl rfl rfl (I.ixS rfl (by omega))) rfl rfl ?_
    refine SS.val (R.load rfl rfl (I.ldNc (by assumption) rfl rfl)) rfl rfl ?_
    refine SS.val (R.move rfl rfl) rfl rfl ?_
    refine SS.val (R.move rfl rfl) rfl rfl ?_
    refine SS.val (R.index rfl rfl rfl (I.ixS rfl (by omega))) rfl rfl ?_
    refine SS.val (R.load rfl rfl (I.ldNc (by assumption) rfl rfl)) rfl rfl ?_
    refine SS.val (R.neSF (p := (x.1 : Int) = y.1 ∧ (x.2.1 : Int) = y.2.1 ∧ (x.2.2 : Int) = y.2.2) (bs := [decide ((x.1 : Int) = y.1), decide ((x.2.1 : Int) = y.2.1), decide ((x.2.2 : Int) = y.2.2)]) rfl rfl rfl rfl (by kernel_rfl) (by kernel_rfl) (by simp) (by first | assumption | omega | exact ⟨rfl, rfl⟩ | exact fun h => h ⟨rfl, rfl⟩)) rfl rfl ?_
    refine SS.nilQ ?_
    refine ZT ?_; refine ZY ?_; refine Zr ?_; refine Za ?_; refine Zq ?_; refine ZR ?_; refine EE.inR ?_; refine EE.thenR ?_; refine EE.thenR ?_; refine EE.inR ?_; refine EE.thenR ?_; refine EE.ret _ rfl rfl ?_
    exact ⟨rfl, q⟩
/-- Are two inodes the same? -/
def sameI (k l z : Int) (m : List Ex) (r p : Int) (t : Bs) (k' l' z' : Int) (m' : List Ex) (r' p' : Int) (t' : Bs) : Prop := k = k' ∧ l = l' ∧ z = z' ∧ m = m' ∧ r = r' ∧ p = p' ∧ t = t'
theorem insame_any (k l z : Int) (a : Value) (m : List Ex) (r p : Int) (t : Bs) (k' l' z' : Int) (a' : Value) (m' : List Ex) (r' p' : Int) (t' : Bs) (w : World) (hv : ReadsT eE 3 w a m) (hu : ReadsT eE 3 w a' m') (hlen : m.length ≤ 1048576) (hlen' : m'.length ≤ 1048576) (b : Bool) (hb : b = true ↔ sameI k l z m r p t k' l' z' m' r' p' t') :
    Calls Tryd.prog 25 #[inV k l z a r p t, inV k' l' z' a' r' p' t'] w fun e w' => e = .returned (.bool b) ∧ Below w.heap.size w w' := by
  have q := Below.refl w.heap.size w
  obtain ⟨x, c, rfl, _⟩ := hv.form rfl
  obtain ⟨x', c', rfl, _⟩ := hu.form rfl
  have hvF : ∀ X, Below w.heap.size w X → ReadsT eE 3 X (.slice x m.length c) m := fun X b => hv.up b
  have huF : ∀ X, Below w.heap.size w X → ReadsT eE 3 X (.slice x' m'.length c') m' := fun X b => hu.up b
  clear hv hu
  by_cases hs : sameI k l z m r p t k' l' z' m' r' p' t'
  case neg =>
    have hbf : b = false := by
      cases b with
      | false => rfl
      | true => exact absurd (hb.1 rfl) hs
    subst hbf
    clear hb
    unfold sameI at hs
    by_cases h1 : k = k'
    case neg =>
      clear hs
      refine X.fn Tryd.func25 rfl (n := 52) rfl rfl ?_
      refine Zr ?_
      refine LL.box [.int .i64 k, .int .i64 l, .int .i64 z, .slice x m.length c, .int .i64 r, .int .i64 p, strV t] rfl rfl rfl rfl rfl ?_
      intro W2 g3 eg3 r4 z5 b1
      replace q := Zu q b1; have l6 := r4.lt
      refine LL.box [.int .i64 k', .int .i64 l', .int .i64 z', .slice x' m'.length c', .int .i64 r', .int .i64 p', strV t'] rfl rfl rfl rfl rfl ?_
      intro W8 g9 eg9 r10 z11 b7
      replace r4 := r4.up b7; replace b1 := Zu b1 b7; replace q := Zu q b7; refine Za ?_; refine Zq ?_; refine Zr ?_; refine Zf ?_; refine Zl r4 ?_; refine Zf ?_; refine Zl r10 ?_; refine ZeqF ?_; refine Zm ?_; refine Zs ?_; refine Zs ?_; refine Zs ?_; refine Zs ?_; refine Zs ?_; refine Zp ?_; refine Zm ?_; refine Zs ?_; refine Zs ?_; refine Zs ?_; refine Zs ?_; refine Zs ?_; refine Zp ?_; refine Zm ?_
      refine Zs ?_; refine Zs ?_; refine Zs ?_; refine Zs ?_; refine Zs ?_; refine Zp ?_; refine Zm ?_; refine Zs ?_; refine Zs ?_; refine Zs ?_; refine Zs ?_; refine Zs ?_; refine Zp ?_; refine Zm ?_; refine Zs ?_; refine Zs ?_; refine Zs ?_; refine Zs ?_; refine Zs ?_; refine Zp ?_; refine Zm ?_; refine Zs ?_; refine Zs ?_; refine Zs ?_; refine Zs ?_; refine Zs ?_; refine Zp ?_; refine Za ?_; refine Zq ?_
      refine ZR ?_; refine EE.ret _ rfl rfl ?_
      exact ⟨rfl, q⟩
    by_cases h2 : l = l'
    case neg =>
      clear hs
      refine X.fn Tryd.func25 rfl (n := 52) rfl rfl ?_
      refine Zr ?_
      refine LL.box [.int .i64 k, .int .i64 l, .int .i64 z, .slice x m.length c, .int .i64 r, .int .i64 p, strV t] rfl rfl rfl rfl rfl ?_
      intro Wa2 ga3 ega3 ra4 za5 ba1
      replace q := Zu q ba1; have la6 := ra4.lt
      refine LL.box [.int .i64 k', .int .i64 l', .int .i64 z', .slice x' m'.length c', .int .i64 r', .int .i64 p', strV t'] rfl rfl rfl rfl rfl ?_
      intro Wa8 ga9 ega9 ra10 za11 ba7
      replace ra4 := ra4.up ba7; replace ba1 := Zu ba1 ba7; replace q := Zu q ba7; refine Za ?_; refine Zq ?_; refine Zr ?_; refine Zf ?_; refine Zl ra4 ?_; refine Zf ?_; refine Zl ra10 ?_; refine ZeqT ?_; refine Zm ?_; refine Zf ?_; refine Zl ra4 ?_; refine Zf ?_; refine Zl ra10 ?_; refine ZeqF ?_; refine Zp ?_; refine Zm ?_; refine Zs ?_; refine Zs ?_; refine Zs ?_; refine Zs ?_; refine Zs ?_; refine Zp ?_
      refine Zm ?_; refine Zs ?_; refine Zs ?_; refine Zs ?_; refine Zs ?_; refine Zs ?_; refine Zp ?_; refine Zm ?_; refine Zs ?_; refine Zs ?_; refine Zs ?_; refine Zs ?_; refine Zs ?_; refine Zp ?_; refine Zm ?_; refine Zs ?_; refine Zs ?_; refine Zs ?_; refine Zs ?_; refine Zs ?_; refine Zp ?_; refine Zm ?_; refine Zs ?_; refine Zs ?_; refine Zs ?_; refine Zs ?_; refine Zs ?_; refine Zp ?_; refine Za ?_
      refine Zq ?_; refine ZR ?_; refine EE.ret _ rfl rfl ?_
      exact ⟨rfl, q⟩
    by_cases h3 : z = z'
    case neg =>
      clear hs
      refine X.fn Tryd.func25 rfl (n := 52) rfl rfl ?_
      refine Zr ?_
      refine LL.box [.int .i64 k, .int .i64 l, .int .i64 z, .slice x m.length c, .int .i64 r, .int .i64 p, strV t] rfl rfl rfl rfl rfl ?_
      intro Wb2 gb3 egb3 rb4 zb5 bb1
      replace q := Zu q bb1; have lb6 := rb4.lt
      refine LL.box [.int .i64 k', .int .i64 l', .int .i64 z', .slice x' m'.length c', .int .i64 r', .int .i64 p', strV t'] rfl rfl rfl rfl rfl ?_
      intro Wb8 gb9 egb9 rb10 zb11 bb7
      replace rb4 := rb4.up bb7; replace bb1 := Zu bb1 bb7; replace q := Zu q bb7; refine Za ?_; refine Zq ?_; refine Zr ?_; refine Zf ?_; refine Zl rb4 ?_; refine Zf ?_; refine Zl rb10 ?_; refine ZeqT ?_; refine Zm ?_; refine Zf ?_; refine Zl rb4 ?_; refine Zf ?_; refine Zl rb10 ?_; refine ZeqT ?_; refine Zp ?_; refine Zm ?_; refine Zf ?_; refine Zl rb4 ?_; refine Zf ?_; refine Zl rb10 ?_; refine ZeqF ?_
      refine Zp ?_; refine Zm ?_; refine Zs ?_; refine Zs ?_; refine Zs ?_; refine Zs ?_; refine Zs ?_; refine Zp ?_; refine Zm ?_; refine Zs ?_; refine Zs ?_; refine Zs ?_; refine Zs ?_; refine Zs ?_; refine Zp ?_; refine Zm ?_; refine Zs ?_; refine Zs ?_; refine Zs ?_; refine Zs ?_; refine Zs ?_; refine Zp ?_; refine Zm ?_; refine Zs ?_; refine Zs ?_; refine Zs ?_; refine Zs ?_; refine Zs ?_; refine Zp ?_
      refine Za ?_; refine Zq ?_; refine ZR ?_; refine EE.ret _ rfl rfl ?_
      exact ⟨rfl, q⟩
    by_cases h4 : m = m'
    case neg =>
      clear hs
      refine X.fn Tryd.func25 rfl (n := 52) rfl rfl ?_
      refine Zr ?_
      refine LL.box [.int .i64 k, .int .i64 l, .int .i64 z, .slice x m.length c, .int .i64 r, .int .i64 p, strV t] rfl rfl rfl rfl rfl ?_
      intro Wc2 gc3 egc3 rc4 zc5 bc1
      replace q := Zu q bc1; have lc6 := rc4.lt
      refine LL.box [.int .i64 k', .int .i64 l', .int .i64 z', .slice x' m'.length c', .int .i64 r', .int .i64 p', strV t'] rfl rfl rfl rfl rfl ?_
      intro Wc8 gc9 egc9 rc10 zc11 bc7
      replace rc4 := rc4.up bc7; replace bc1 := Zu bc1 bc7; replace q := Zu q bc7; refine Za ?_; refine Zq ?_; refine Zr ?_; refine Zf ?_; refine Zl rc4 ?_; refine Zf ?_; refine Zl rc10 ?_; refine ZeqT ?_; refine Zm ?_; refine Zf ?_; refine Zl rc4 ?_; refine Zf ?_; refine Zl rc10 ?_; refine ZeqT ?_; refine Zp ?_; refine Zm ?_; refine Zf ?_; refine Zl rc4 ?_; refine Zf ?_; refine Zl rc10 ?_; refine ZeqT ?_
      refine Zp ?_; refine Zm ?_; refine Zf ?_; refine Zl rc4 ?_; refine Zf ?_; refine Zl rc10 ?_
      refine LL.callBF (R.call rfl rfl rfl) rfl rfl rfl (eqx_any _ _ m m' _ (hvF _ q) (huF _ q) hlen hlen') (by first | assumption | omega) (fun Wc13 bc12 => ?_)
      have zbc12 := bc12.size; replace rc10 := rc10.up bc12; replace bc7 := Zu bc7 bc12; replace rc4 := rc4.up bc12; replace bc1 := Zu bc1 bc12; replace q := Zu q bc12; refine Zp ?_; refine Zm ?_; refine Zs ?_; refine Zs ?_; refine Zs ?_; refine Zs ?_; refine Zs ?_; refine Zp ?_; refine Zm ?_; refine Zs ?_; refine Zs ?_; refine Zs ?_; refine Zs ?_; refine Zs ?_; refine Zp ?_; refine Zm ?_; refine Zs ?_
      refine Zs ?_; refine Zs ?_; refine Zs ?_; refine Zs ?_; refine Zp ?_; refine Za ?_; refine Zq ?_; refine ZR ?_; refine EE.ret _ rfl rfl ?_
      exact ⟨rfl, q⟩
    by_cases h5 : r = r'
    case neg =>
      clear hs
      refine X.fn Tryd.func25 rfl (n := 52) rfl rfl ?_
      refine Zr ?_
      refine LL.box [.int .i64 k, .int .i64 l, .int .i64 z, .slice x m.length c, .int .i64 r, .int .i64 p, strV t] rfl rfl rfl rfl rfl ?_
      intro Wd2 gd3 egd3 rd4 zd5 bd1
      replace q := Zu q bd1; have ld6 := rd4.lt
      refine LL.box [.int .i64 k', .int .i64 l', .int .i64 z', .slice x' m'.length c', .int .i64 r', .int .i64 p', strV t'] rfl rfl rfl rfl rfl ?_
      intro Wd8 gd9 egd9 rd10 zd11 bd7
      replace rd4 := rd4.up bd7; replace bd1 := Zu bd1 bd7; replace q := Zu q bd7; refine Za ?_; refine Zq ?_; refine Zr ?_; refine Zf ?_; refine Zl rd4 ?_; refine Zf ?_; refine Zl rd10 ?_; refine ZeqT ?_; refine Zm ?_; refine Zf ?_; refine Zl rd4 ?_; refine Zf ?_; refine Zl rd10 ?_; refine ZeqT ?_; refine Zp ?_; refine Zm ?_; refine Zf ?_; refine Zl rd4 ?_; refine Zf ?_; refine Zl rd10 ?_; refine ZeqT ?_
      refine Zp ?_; refine Zm ?_; refine Zf ?_; refine Zl rd4 ?_; refine Zf ?_; refine Zl rd10 ?_
      refine LL.callBT (R.call rfl rfl rfl) rfl rfl rfl (eqx_any _ _ m m' _ (hvF _ q) (huF _ q) hlen hlen') (by first | assumption | omega) (fun Wd13 bd12 => ?_)
      have zbd12 := bd12.size; replace rd10 := rd10.up bd12; replace bd7 := Zu bd7 bd12; replace rd4 := rd4.up bd12; replace bd1 := Zu bd1 bd12; replace q := Zu q bd12; refine Zp ?_; refine Zm ?_; refine Zf ?_; refine Zl rd4 ?_; refine Zf ?_; refine Zl rd10 ?_; refine ZeqF ?_; refine Zp ?_; refine Zm ?_; refine Zs ?_; refine Zs ?_; refine Zs ?_; refine Zs ?_; refine Zs ?_; refine Zp ?_; refine Zm ?_
      refine Zs ?_; refine Zs ?_; refine Zs ?_; refine Zs ?_; refine Zs ?_; refine Zp ?_; refine Za ?_; refine Zq ?_; refine ZR ?_; refine EE.ret _ rfl rfl ?_
      exact ⟨rfl, q⟩
    by_cases h6 : p = p'
    case neg =>
      clear hs
      refine X.fn Tryd.func25 rfl (n := 52) rfl rfl ?_
      refine Zr ?_
      refine LL.box [.int .i64 k, .int .i64 l, .int .i64 z, .slice x m.length c, .int .i64 r, .int .i64 p, strV t] rfl rfl rfl rfl rfl ?_
      intro We2 ge3 ege3 re4 ze5 be1
      replace q := Zu q be1; have le6 := re4.lt
      refine LL.box [.int .i64 k', .int .i64 l', .int .i64 z', .slice x' m'.length c', .int .i64 r', .int .i64 p', strV t'] rfl rfl rfl rfl rfl ?_
      intro We8 ge9 ege9 re10 ze11 be7
      replace re4 := re4.up be7; replace be1 := Zu be1 be7; replace q := Zu q be7; refine Za ?_; refine Zq ?_; refine Zr ?_; refine Zf ?_; refine Zl re4 ?_; refine Zf ?_; refine Zl re10 ?_; refine ZeqT ?_; refine Zm ?_; refine Zf ?_; refine Zl re4 ?_; refine Zf ?_; refine Zl re10 ?_; refine ZeqT ?_; refine Zp ?_; refine Zm ?_; refine Zf ?_; refine Zl re4 ?_; refine Zf ?_; refine Zl re10 ?_; refine ZeqT ?_
      refine Zp ?_; refine Zm ?_; refine Zf ?_; refine Zl re4 ?_; refine Zf ?_; refine Zl re10 ?_
      refine LL.callBT (R.call rfl rfl rfl) rfl rfl rfl (eqx_any _ _ m m' _ (hvF _ q) (huF _ q) hlen hlen') (by first | assumption | omega) (fun We13 be12 => ?_)
      have zbe12 := be12.size; replace re10 := re10.up be12; replace be7 := Zu be7 be12; replace re4 := re4.up be12; replace be1 := Zu be1 be12; replace q := Zu q be12; refine Zp ?_; refine Zm ?_; refine Zf ?_; refine Zl re4 ?_; refine Zf ?_; refine Zl re10 ?_; refine ZeqT ?_; refine Zp ?_; refine Zm ?_; refine Zf ?_; refine Zl re4 ?_; refine Zf ?_; refine Zl re10 ?_; refine ZeqF ?_; refine Zp ?_; refine Zm ?_
      refine Zs ?_; refine Zs ?_; refine Zs ?_; refine Zs ?_; refine Zs ?_; refine Zp ?_; refine Za ?_; refine Zq ?_; refine ZR ?_; refine EE.ret _ rfl rfl ?_
      exact ⟨rfl, q⟩
    by_cases h7 : t = t'
    case neg =>
      clear hs
      refine X.fn Tryd.func25 rfl (n := 52) rfl rfl ?_
      refine Zr ?_
      refine LL.box [.int .i64 k, .int .i64 l, .int .i64 z, .slice x m.length c, .int .i64 r, .int .i64 p, strV t] rfl rfl rfl rfl rfl ?_
      intro Wf2 gf3 egf3 rf4 zf5 bf1
      replace q := Zu q bf1; have lf6 := rf4.lt
      refine LL.box [.int .i64 k', .int .i64 l', .int .i64 z', .slice x' m'.length c', .int .i64 r', .int .i64 p', strV t'] rfl rfl rfl rfl rfl ?_
      intro Wf8 gf9 egf9 rf10 zf11 bf7
      replace rf4 := rf4.up bf7; replace bf1 := Zu bf1 bf7; replace q := Zu q bf7; refine Za ?_; refine Zq ?_; refine Zr ?_; refine Zf ?_; refine Zl rf4 ?_; refine Zf ?_; refine Zl rf10 ?_; refine ZeqT ?_; refine Zm ?_; refine Zf ?_; refine Zl rf4 ?_; refine Zf ?_; refine Zl rf10 ?_; refine ZeqT ?_; refine Zp ?_; refine Zm ?_; refine Zf ?_; refine Zl rf4 ?_; refine Zf ?_; refine Zl rf10 ?_; refine ZeqT ?_
      refine Zp ?_; refine Zm ?_; refine Zf ?_; refine Zl rf4 ?_; refine Zf ?_; refine Zl rf10 ?_
      refine LL.callBT (R.call rfl rfl rfl) rfl rfl rfl (eqx_any _ _ m m' _ (hvF _ q) (huF _ q) hlen hlen') (by first | assumption | omega) (fun Wf13 bf12 => ?_)
      have zbf12 := bf12.size; replace rf10 := rf10.up bf12; replace bf7 := Zu bf7 bf12; replace rf4 := rf4.up bf12; replace bf1 := Zu bf1 bf12; replace q := Zu q bf12; refine Zp ?_; refine Zm ?_; refine Zf ?_; refine Zl rf4 ?_; refine Zf ?_; refine Zl rf10 ?_; refine ZeqT ?_; refine Zp ?_; refine Zm ?_; refine Zf ?_; refine Zl rf4 ?_; refine Zf ?_; refine Zl rf10 ?_; refine ZeqT ?_; refine Zp ?_; refine Zm ?_
      refine Zf ?_; refine Zl rf4 ?_; refine Zf ?_; refine Zl rf10 ?_
      (refine LL.val (R.eqS (a := t) (b := t') (c := false) rfl rfl rfl (decide_eq_false h7)) rfl rfl rfl ?_)
      refine Zp ?_; refine Za ?_; refine Zq ?_; refine ZR ?_; refine EE.ret _ rfl rfl ?_
      exact ⟨rfl, q⟩
    exact absurd ⟨h1, h2, h3, h4, h5, h6, h7⟩ hs
  have hbt : b = true := hb.2 hs
  subst hbt
  clear hb
  obtain ⟨h1, h2, h3, h4, h5, h6, h7⟩ := hs
  refine X.fn Tryd.func25 rfl (n := 52) rfl rfl ?_
  refine Zr ?_
  refine LL.box [.int .i64 k, .int .i64 l, .int .i64 z, .slice x m.length c, .int .i64 r, .int .i64 p, strV t] rfl rfl rfl rfl rfl ?_
  intro Wg2 gg3 egg3 rg4 zg5 bg1
  replace q := Zu q bg1; have lg6 := rg4.lt
  refine LL.box [.int .i64 k', .int .i64 l', .int .i64 z', .slice x' m'.length c', .int .i64 r', .int .i64 p', strV t'] rfl rfl rfl rfl rfl ?_
  intro Wg8 gg9 egg9 rg10 zg11 bg7
  replace rg4 := rg4.up bg7; replace bg1 := Zu bg1 bg7; replace q := Zu q bg7; refine Za ?_; refine Zq ?_; refine Zr ?_; refine Zf ?_; refine Zl rg4 ?_; refine Zf ?_; refine Zl rg10 ?_; refine ZeqT ?_; refine Zm ?_; refine Zf ?_; refine Zl rg4 ?_; refine Zf ?_; refine Zl rg10 ?_; refine ZeqT ?_; refine Zp ?_; refine Zm ?_; refine Zf ?_; refine Zl rg4 ?_; refine Zf ?_; refine Zl rg10 ?_; refine ZeqT ?_
  refine Zp ?_; refine Zm ?_; refine Zf ?_; refine Zl rg4 ?_; refine Zf ?_; refine Zl rg10 ?_
  refine LL.callBT (R.call rfl rfl rfl) rfl rfl rfl (eqx_any _ _ m m' _ (hvF _ q) (huF _ q) hlen hlen') (by first | assumption | omega) (fun Wg13 bg12 => ?_)
  have zbg12 := bg12.size; replace rg10 := rg10.up bg12; replace bg7 := Zu bg7 bg12; replace rg4 := rg4.up bg12; replace bg1 := Zu bg1 bg12; replace q := Zu q bg12; refine Zp ?_; refine Zm ?_; refine Zf ?_; refine Zl rg4 ?_; refine Zf ?_; refine Zl rg10 ?_; refine ZeqT ?_; refine Zp ?_; refine Zm ?_; refine Zf ?_; refine Zl rg4 ?_; refine Zf ?_; refine Zl rg10 ?_; refine ZeqT ?_; refine Zp ?_; refine Zm ?_
  refine Zf ?_; refine Zl rg4 ?_; refine Zf ?_; refine Zl rg10 ?_
  (refine LL.val (R.eqS (a := t) (b := t') (c := true) rfl rfl rfl (decide_eq_true h7)) rfl rfl rfl ?_)
  refine Zp ?_; refine Za ?_; refine Zq ?_; refine ZR ?_; refine EE.ret _ rfl rfl ?_
  exact ⟨rfl, q⟩
theorem dinsame_any (k l z : Int) (a : Value) (m : List Ex) (r p : Int) (t : Bs) (k' l' z' : Int) (a' : Value) (m' : List Ex) (r' p' : Int) (t' : Bs) (w : World) (hv : ReadsT eE 3 w a m) (hu : ReadsT eE 3 w a' m') (hlen : m.length ≤ 1048576) (hlen' : m'.length ≤ 1048576) (b : Bool) (hb : b = true ↔ sameI k l z m r p t k' l' z' m' r' p' t') :
    Calls Tryd.prog 18 #[inV k l z a r p t, inV k' l' z' a' r' p' t'] w fun e w' => e = .returned (.bool b) ∧ Below w.heap.size w w' := by
  have q := Below.refl w.heap.size w
  obtain ⟨x, c, rfl, _⟩ := hv.form rfl
  obtain ⟨x', c', rfl, _⟩ := hu.form rfl
  have hvF : ∀ X, Below w.heap.size w X → ReadsT eE 3 X (.slice x m.length c) m := fun X b => hv.up b
  have huF : ∀ X, Below w.heap.size w X → ReadsT eE 3 X (.slice x' m'.length c') m' := fun X b => hu.up b
  clear hv hu
  by_cases hs : sameI k l z m r p t k' l' z' m' r' p' t'
  case neg =>
    have hbf : b = false := by
      cases b with
      | false => rfl
      | true => exact absurd (hb.1 rfl) hs
    subst hbf
    clear hb
    unfold sameI at hs
    by_cases h1 : k = k'
    case neg =>
      clear hs
      refine X.fn Tryd.func18 rfl (n := 52) rfl rfl ?_
      refine Zr ?_
      refine LL.box [.int .i64 k, .int .i64 l, .int .i64 z, .slice x m.length c, .int .i64 r, .int .i64 p, strV t] rfl rfl rfl rfl rfl ?_
      intro W2 g3 eg3 r4 z5 b1
      replace q := Zu q b1; have l6 := r4.lt
      refine LL.box [.int .i64 k', .int .i64 l', .int .i64 z', .slice x' m'.length c', .int .i64 r', .int .i64 p', strV t'] rfl rfl rfl rfl rfl ?_
      intro W8 g9 eg9 r10 z11 b7
      replace r4 := r4.up b7; replace b1 := Zu b1 b7; replace q := Zu q b7; refine Za ?_; refine Zq ?_; refine Zr ?_; refine Zf ?_; refine Zl r4 ?_; refine Zf ?_; refine Zl r10 ?_; refine ZeqF ?_; refine Zm ?_; refine Zs ?_; refine Zs ?_; refine Zs ?_; refine Zs ?_; refine Zs ?_; refine Zp ?_; refine Zm ?_; refine Zs ?_; refine Zs ?_; refine Zs ?_; refine Zs ?_; refine Zs ?_; refine Zp ?_; refine Zm ?_
      refine Zs ?_; refine Zs ?_; refine Zs ?_; refine Zs ?_; refine Zs ?_; refine Zp ?_; refine Zm ?_; refine Zs ?_; refine Zs ?_; refine Zs ?_; refine Zs ?_; refine Zs ?_; refine Zp ?_; refine Zm ?_; refine Zs ?_; refine Zs ?_; refine Zs ?_; refine Zs ?_; refine Zs ?_; refine Zp ?_; refine Zm ?_; refine Zs ?_; refine Zs ?_; refine Zs ?_; refine Zs ?_; refine Zs ?_; refine Zp ?_; refine Za ?_; refine Zq ?_
      refine ZR ?_; refine EE.ret _ rfl rfl ?_
      exact ⟨rfl, q⟩
    by_cases h2 : l = l'
    case neg =>
      clear hs
      refine X.fn Tryd.func18 rfl (n := 52) rfl rfl ?_
      refine Zr ?_
      refine LL.box [.int .i64 k, .int .i64 l, .int .i64 z, .slice x m.length c, .int .i64 r, .int .i64 p, strV t] rfl rfl rfl rfl rfl ?_
      intro Wa2 ga3 ega3 ra4 za5 ba1
      replace q := Zu q ba1; have la6 := ra4.lt
      refine LL.box [.int .i64 k', .int .i64 l', .int .i64 z', .slice x' m'.length c', .int .i64 r', .int .i64 p', strV t'] rfl rfl rfl rfl rfl ?_
      intro Wa8 ga9 ega9 ra10 za11 ba7
      replace ra4 := ra4.up ba7; replace ba1 := Zu ba1 ba7; replace q := Zu q ba7; refine Za ?_; refine Zq ?_; refine Zr ?_; refine Zf ?_; refine Zl ra4 ?_; refine Zf ?_; refine Zl ra10 ?_; refine ZeqT ?_; refine Zm ?_; refine Zf ?_; refine Zl ra4 ?_; refine Zf ?_; refine Zl ra10 ?_; refine ZeqF ?_; refine Zp ?_; refine Zm ?_; refine Zs ?_; refine Zs ?_; refine Zs ?_; refine Zs ?_; refine Zs ?_; refine Zp ?_
      refine Zm ?_; refine Zs ?_; refine Zs ?_; refine Zs ?_; refine Zs ?_; refine Zs ?_; refine Zp ?_; refine Zm ?_; refine Zs ?_; refine Zs ?_; refine Zs ?_; refine Zs ?_; refine Zs ?_; refine Zp ?_; refine Zm ?_; refine Zs ?_; refine Zs ?_; refine Zs ?_; refine Zs ?_; refine Zs ?_; refine Zp ?_; refine Zm ?_; refine Zs ?_; refine Zs ?_; refine Zs ?_; refine Zs ?_; refine Zs ?_; refine Zp ?_; refine Za ?_
      refine Zq ?_; refine ZR ?_; refine EE.ret _ rfl rfl ?_
      exact ⟨rfl, q⟩
    by_cases h3 : z = z'
    case neg =>
      clear hs
      refine X.fn Tryd.func18 rfl (n := 52) rfl rfl ?_
      refine Zr ?_
      refine LL.box [.int .i64 k, .int .i64 l, .int .i64 z, .slice x m.length c, .int .i64 r, .int .i64 p, strV t] rfl rfl rfl rfl rfl ?_
      intro Wb2 gb3 egb3 rb4 zb5 bb1
      replace q := Zu q bb1; have lb6 := rb4.lt
      refine LL.box [.int .i64 k', .int .i64 l', .int .i64 z', .slice x' m'.length c', .int .i64 r', .int .i64 p', strV t'] rfl rfl rfl rfl rfl ?_
      intro Wb8 gb9 egb9 rb10 zb11 bb7
      replace rb4 := rb4.up bb7; replace bb1 := Zu bb1 bb7; replace q := Zu q bb7; refine Za ?_; refine Zq ?_; refine Zr ?_; refine Zf ?_; refine Zl rb4 ?_; refine Zf ?_; refine Zl rb10 ?_; refine ZeqT ?_; refine Zm ?_; refine Zf ?_; refine Zl rb4 ?_; refine Zf ?_; refine Zl rb10 ?_; refine ZeqT ?_; refine Zp ?_; refine Zm ?_; refine Zf ?_; refine Zl rb4 ?_; refine Zf ?_; refine Zl rb10 ?_; refine ZeqF ?_
      refine Zp ?_; refine Zm ?_; refine Zs ?_; refine Zs ?_; refine Zs ?_; refine Zs ?_; refine Zs ?_; refine Zp ?_; refine Zm ?_; refine Zs ?_; refine Zs ?_; refine Zs ?_; refine Zs ?_; refine Zs ?_; refine Zp ?_; refine Zm ?_; refine Zs ?_; refine Zs ?_; refine Zs ?_; refine Zs ?_; refine Zs ?_; refine Zp ?_; refine Zm ?_; refine Zs ?_; refine Zs ?_; refine Zs ?_; refine Zs ?_; refine Zs ?_; refine Zp ?_
      refine Za ?_; refine Zq ?_; refine ZR ?_; refine EE.ret _ rfl rfl ?_
      exact ⟨rfl, q⟩
    by_cases h4 : m = m'
    case neg =>
      clear hs
      refine X.fn Tryd.func18 rfl (n := 52) rfl rfl ?_
      refine Zr ?_
      refine LL.box [.int .i64 k, .int .i64 l, .int .i64 z, .slice x m.length c, .int .i64 r, .int .i64 p, strV t] rfl rfl rfl rfl rfl ?_
      intro Wc2 gc3 egc3 rc4 zc5 bc1
      replace q := Zu q bc1; have lc6 := rc4.lt
      refine LL.box [.int .i64 k', .int .i64 l', .int .i64 z', .slice x' m'.length c', .int .i64 r', .int .i64 p', strV t'] rfl rfl rfl rfl rfl ?_
      intro Wc8 gc9 egc9 rc10 zc11 bc7
      replace rc4 := rc4.up bc7; replace bc1 := Zu bc1 bc7; replace q := Zu q bc7; refine Za ?_; refine Zq ?_; refine Zr ?_; refine Zf ?_; refine Zl rc4 ?_; refine Zf ?_; refine Zl rc10 ?_; refine ZeqT ?_; refine Zm ?_; refine Zf ?_; refine Zl rc4 ?_; refine Zf ?_; refine Zl rc10 ?_; refine ZeqT ?_; refine Zp ?_; refine Zm ?_; refine Zf ?_; refine Zl rc4 ?_; refine Zf ?_; refine Zl rc10 ?_; refine ZeqT ?_
      refine Zp ?_; refine Zm ?_; refine Zf ?_; refine Zl rc4 ?_; refine Zf ?_; refine Zl rc10 ?_
      refine LL.callBF (R.call rfl rfl rfl) rfl rfl rfl (slist_any _ _ m m' _ (hvF _ q) (huF _ q) hlen hlen') (by first | assumption | omega) (fun Wc13 bc12 => ?_)
      have zbc12 := bc12.size; replace rc10 := rc10.up bc12; replace bc7 := Zu bc7 bc12; replace rc4 := rc4.up bc12; replace bc1 := Zu bc1 bc12; replace q := Zu q bc12; refine Zp ?_; refine Zm ?_; refine Zs ?_; refine Zs ?_; refine Zs ?_; refine Zs ?_; refine Zs ?_; refine Zp ?_; refine Zm ?_; refine Zs ?_; refine Zs ?_; refine Zs ?_; refine Zs ?_; refine Zs ?_; refine Zp ?_; refine Zm ?_; refine Zs ?_
      refine Zs ?_; refine Zs ?_; refine Zs ?_; refine Zs ?_; refine Zp ?_; refine Za ?_; refine Zq ?_; refine ZR ?_; refine EE.ret _ rfl rfl ?_
      exact ⟨rfl, q⟩
    by_cases h5 : r = r'
    case neg =>
      clear hs
      refine X.fn Tryd.func18 rfl (n := 52) rfl rfl ?_
      refine Zr ?_
      refine LL.box [.int .i64 k, .int .i64 l, .int .i64 z, .slice x m.length c, .int .i64 r, .int .i64 p, strV t] rfl rfl rfl rfl rfl ?_
      intro Wd2 gd3 egd3 rd4 zd5 bd1
      replace q := Zu q bd1; have ld6 := rd4.lt
      refine LL.box [.int .i64 k', .int .i64 l', .int .i64 z', .slice x' m'.length c', .int .i64 r', .int .i64 p', strV t'] rfl rfl rfl rfl rfl ?_
      intro Wd8 gd9 egd9 rd10 zd11 bd7
      replace rd4 := rd4.up bd7; replace bd1 := Zu bd1 bd7; replace q := Zu q bd7; refine Za ?_; refine Zq ?_; refine Zr ?_; refine Zf ?_; refine Zl rd4 ?_; refine Zf ?_; refine Zl rd10 ?_; refine ZeqT ?_; refine Zm ?_; refine Zf ?_; refine Zl rd4 ?_; refine Zf ?_; refine Zl rd10 ?_; refine ZeqT ?_; refine Zp ?_; refine Zm ?_; refine Zf ?_; refine Zl rd4 ?_; refine Zf ?_; refine Zl rd10 ?_; refine ZeqT ?_
      refine Zp ?_; refine Zm ?_; refine Zf ?_; refine Zl rd4 ?_; refine Zf ?_; refine Zl rd10 ?_
      refine LL.callBT (R.call rfl rfl rfl) rfl rfl rfl (slist_any _ _ m m' _ (hvF _ q) (huF _ q) hlen hlen') (by first | assumption | omega) (fun Wd13 bd12 => ?_)
      have zbd12 := bd12.size; replace rd10 := rd10.up bd12; replace bd7 := Zu bd7 bd12; replace rd4 := rd4.up bd12; replace bd1 := Zu bd1 bd12; replace q := Zu q bd12; refine Zp ?_; refine Zm ?_; refine Zf ?_; refine Zl rd4 ?_; refine Zf ?_; refine Zl rd10 ?_; refine ZeqF ?_; refine Zp ?_; refine Zm ?_; refine Zs ?_; refine Zs ?_; refine Zs ?_; refine Zs ?_; refine Zs ?_; refine Zp ?_; refine Zm ?_
      refine Zs ?_; refine Zs ?_; refine Zs ?_; refine Zs ?_; refine Zs ?_; refine Zp ?_; refine Za ?_; refine Zq ?_; refine ZR ?_; refine EE.ret _ rfl rfl ?_
      exact ⟨rfl, q⟩
    by_cases h6 : p = p'
    case neg =>
      clear hs
      refine X.fn Tryd.func18 rfl (n := 52) rfl rfl ?_
      refine Zr ?_
      refine LL.box [.int .i64 k, .int .i64 l, .int .i64 z, .slice x m.length c, .int .i64 r, .int .i64 p, strV t] rfl rfl rfl rfl rfl ?_
      intro We2 ge3 ege3 re4 ze5 be1
      replace q := Zu q be1; have le6 := re4.lt
      refine LL.box [.int .i64 k', .int .i64 l', .int .i64 z', .slice x' m'.length c', .int .i64 r', .int .i64 p', strV t'] rfl rfl rfl rfl rfl ?_
      intro We8 ge9 ege9 re10 ze11 be7
      replace re4 := re4.up be7; replace be1 := Zu be1 be7; replace q := Zu q be7; refine Za ?_; refine Zq ?_; refine Zr ?_; refine Zf ?_; refine Zl re4 ?_; refine Zf ?_; refine Zl re10 ?_; refine ZeqT ?_; refine Zm ?_; refine Zf ?_; refine Zl re4 ?_; refine Zf ?_; refine Zl re10 ?_; refine ZeqT ?_; refine Zp ?_; refine Zm ?_; refine Zf ?_; refine Zl re4 ?_; refine Zf ?_; refine Zl re10 ?_; refine ZeqT ?_
      refine Zp ?_; refine Zm ?_; refine Zf ?_; refine Zl re4 ?_; refine Zf ?_; refine Zl re10 ?_
      refine LL.callBT (R.call rfl rfl rfl) rfl rfl rfl (slist_any _ _ m m' _ (hvF _ q) (huF _ q) hlen hlen') (by first | assumption | omega) (fun We13 be12 => ?_)
      have zbe12 := be12.size; replace re10 := re10.up be12; replace be7 := Zu be7 be12; replace re4 := re4.up be12; replace be1 := Zu be1 be12; replace q := Zu q be12; refine Zp ?_; refine Zm ?_; refine Zf ?_; refine Zl re4 ?_; refine Zf ?_; refine Zl re10 ?_; refine ZeqT ?_; refine Zp ?_; refine Zm ?_; refine Zf ?_; refine Zl re4 ?_; refine Zf ?_; refine Zl re10 ?_; refine ZeqF ?_; refine Zp ?_; refine Zm ?_
      refine Zs ?_; refine Zs ?_; refine Zs ?_; refine Zs ?_; refine Zs ?_; refine Zp ?_; refine Za ?_; refine Zq ?_; refine ZR ?_; refine EE.ret _ rfl rfl ?_
      exact ⟨rfl, q⟩
    by_cases h7 : t = t'
    case neg =>
      clear hs
      refine X.fn Tryd.func18 rfl (n := 52) rfl rfl ?_
      refine Zr ?_
      refine LL.box [.int .i64 k, .int .i64 l, .int .i64 z, .slice x m.length c, .int .i64 r, .int .i64 p, strV t] rfl rfl rfl rfl rfl ?_
      intro Wf2 gf3 egf3 rf4 zf5 bf1
      replace q := Zu q bf1; have lf6 := rf4.lt
      refine LL.box [.int .i64 k', .int .i64 l', .int .i64 z', .slice x' m'.length c', .int .i64 r', .int .i64 p', strV t'] rfl rfl rfl rfl rfl ?_
      intro Wf8 gf9 egf9 rf10 zf11 bf7
      replace rf4 := rf4.up bf7; replace bf1 := Zu bf1 bf7; replace q := Zu q bf7; refine Za ?_; refine Zq ?_; refine Zr ?_; refine Zf ?_; refine Zl rf4 ?_; refine Zf ?_; refine Zl rf10 ?_; refine ZeqT ?_; refine Zm ?_; refine Zf ?_; refine Zl rf4 ?_; refine Zf ?_; refine Zl rf10 ?_; refine ZeqT ?_; refine Zp ?_; refine Zm ?_; refine Zf ?_; refine Zl rf4 ?_; refine Zf ?_; refine Zl rf10 ?_; refine ZeqT ?_
      refine Zp ?_; refine Zm ?_; refine Zf ?_; refine Zl rf4 ?_; refine Zf ?_; refine Zl rf10 ?_
      refine LL.callBT (R.call rfl rfl rfl) rfl rfl rfl (slist_any _ _ m m' _ (hvF _ q) (huF _ q) hlen hlen') (by first | assumption | omega) (fun Wf13 bf12 => ?_)
      have zbf12 := bf12.size; replace rf10 := rf10.up bf12; replace bf7 := Zu bf7 bf12; replace rf4 := rf4.up bf12; replace bf1 := Zu bf1 bf12; replace q := Zu q bf12; refine Zp ?_; refine Zm ?_; refine Zf ?_; refine Zl rf4 ?_; refine Zf ?_; refine Zl rf10 ?_; refine ZeqT ?_; refine Zp ?_; refine Zm ?_; refine Zf ?_; refine Zl rf4 ?_; refine Zf ?_; refine Zl rf10 ?_; refine ZeqT ?_; refine Zp ?_; refine Zm ?_
      refine Zf ?_; refine Zl rf4 ?_; refine Zf ?_; refine Zl rf10 ?_
      (refine LL.val (R.eqS (a := t) (b := t') (c := false) rfl rfl rfl (decide_eq_false h7)) rfl rfl rfl ?_)
      refine Zp ?_; refine Za ?_; refine Zq ?_; refine ZR ?_; refine EE.ret _ rfl rfl ?_
      exact ⟨rfl, q⟩
    exact absurd ⟨h1, h2, h3, h4, h5, h6, h7⟩ hs
  have hbt : b = true := hb.2 hs
  subst hbt
  clear hb
  obtain ⟨h1, h2, h3, h4, h5, h6, h7⟩ := hs
  refine X.fn Tryd.func18 rfl (n := 52) rfl rfl ?_
  refine Zr ?_
  refine LL.box [.int .i64 k, .int .i64 l, .int .i64 z, .slice x m.length c, .int .i64 r, .int .i64 p, strV t] rfl rfl rfl rfl rfl ?_
  intro Wg2 gg3 egg3 rg4 zg5 bg1
  replace q := Zu q bg1; have lg6 := rg4.lt
  refine LL.box [.int .i64 k', .int .i64 l', .int .i64 z', .slice x' m'.length c', .int .i64 r', .int .i64 p', strV t'] rfl rfl rfl rfl rfl ?_
  intro Wg8 gg9 egg9 rg10 zg11 bg7
  replace rg4 := rg4.up bg7; replace bg1 := Zu bg1 bg7; replace q := Zu q bg7; refine Za ?_; refine Zq ?_; refine Zr ?_; refine Zf ?_; refine Zl rg4 ?_; refine Zf ?_; refine Zl rg10 ?_; refine ZeqT ?_; refine Zm ?_; refine Zf ?_; refine Zl rg4 ?_; refine Zf ?_; refine Zl rg10 ?_; refine ZeqT ?_; refine Zp ?_; refine Zm ?_; refine Zf ?_; refine Zl rg4 ?_; refine Zf ?_; refine Zl rg10 ?_; refine ZeqT ?_
  refine Zp ?_; refine Zm ?_; refine Zf ?_; refine Zl rg4 ?_; refine Zf ?_; refine Zl rg10 ?_
  refine LL.callBT (R.call rfl rfl rfl) rfl rfl rfl (slist_any _ _ m m' _ (hvF _ q) (huF _ q) hlen hlen') (by first | assumption | omega) (fun Wg13 bg12 => ?_)
  have zbg12 := bg12.size; replace rg10 := rg10.up bg12; replace bg7 := Zu bg7 bg12; replace rg4 := rg4.up bg12; replace bg1 := Zu bg1 bg12; replace q := Zu q bg12; refine Zp ?_; refine Zm ?_; refine Zf ?_; refine Zl rg4 ?_; refine Zf ?_; refine Zl rg10 ?_; refine ZeqT ?_; refine Zp ?_; refine Zm ?_; refine Zf ?_; refine Zl rg4 ?_; refine Zf ?_; refine Zl rg10 ?_; refine ZeqT ?_; refine Zp ?_; refine Zm ?_
  refine Zf ?_; refine Zl rg4 ?_; refine Zf ?_; refine Zl rg10 ?_
  (refine LL.val (R.eqS (a := t) (b := t') (c := true) rfl rfl rfl (decide_eq_true h7)) rfl rfl rfl ?_)
  refine Zp ?_; refine Za ?_; refine Zq ?_; refine ZR ?_; refine EE.ret _ rfl rfl ?_
  exact ⟨rfl, q⟩
open Go.RowKit
/-- The first k bytes of a word, the lowest first. -/
def byteL (x k : Nat) : List Nat := (List.range k).map fun i => x / 256 ^ i % 256
theorem byteL_succ (x k : Nat) : byteL x (k + 1) = byteL x k ++ [x / 256 ^ k % 256] := by simp [byteL, List.range_succ]
theorem byteL_length (x k : Nat) : (byteL x k).length = k := by simp [byteL]
def bytesL (ws : List Nat) : List Nat := ws.flatMap fun x => byteL x 8
theorem Tryd.info5 : (Tryd.prog.info? 5).map (fun i => (i.zero, i.size, i.bytes)) = some (some (.int .u8 0), 1, 1) := by kernel_rfl
theorem El8 : El Tryd.prog 77 5 (Value.int .u8 0) 1 := ⟨Tryd.underlying77, info_parts Tryd.info5, rfl⟩
theorem Tryd.infou64 : (Tryd.prog.info? 41).map (fun i => (i.zero, i.size, i.bytes)) = some (some (.int .u64 0), 1, 8) := by kernel_rfl
theorem El64 : El Tryd.prog 28 41 (Value.int .u64 0) 8 := ⟨Tryd.underlying28, info_parts Tryd.infou64, rfl⟩
theorem byte_move (x i : Nat) : IntKind.u8.wrap ((x : Int) / 2 ^ (8 * i)) = ((x / 256 ^ i % 256 : Nat) : Int) := by
  rw [IntKind.wrap_u8', show (256 : Nat) = 2 ^ 8 by rfl, ← Nat.pow_mul]
  simp
theorem bytes1_step {w : World} {n0 e : Nat} {v : Value} {n : Nat} {xs : List Nat} {x k : Nat} (h : w.ownsRow n0 e 1 v (n + 1) (ints .u8 (xs ++ byteL x k) ++ [.int .u8 (IntKind.u8.wrap ((x : Int) / 2 ^ (8 * k)))])) :
    w.ownsRow n0 e 1 v (n + 1) (ints .u8 (xs ++ byteL x (k + 1))) := by
  rw [byte_move] at h
  rw [byteL_succ]
  simpa using h
set_option maxHeartbeats 400000 in
theorem bytes1_any (x B n0 : Nat) (v : Value) (n : Nat) (xs : List Nat) (w : World) (hbox : Boxed w B 77 v) (hrow : w.ownsRow n0 5 1 v n (ints .u8 xs)) (hn : n0 ≤ w.heap.size) (hB : n0 ≤ B) (hlen : n + 8 ≤ 140737488355328) :
    Calls Tryd.prog 95 #[.int .u64 x, .pointer (some ⟨B, 0, none⟩)] w fun e w' => e = .returned (.tuple #[]) ∧ ∃ v', Boxed w' B 77 v' ∧ w'.ownsRow n0 5 1 v' (n + 8) (ints .u8 (xs ++ byteL x 8)) ∧ Below n0 w w' := by
  go_enter Tryd.func95, Tryd.ntmps95
  go_wp2
  go_loopw [4] (fun i wr => ∃ k : Nat, k ≤ 8 ∧ i = .int .i64 k ∧ ∃ v m, m = n + k ∧ Boxed wr B 77 v ∧ wr.ownsRow n0 5 1 v m (ints .u8 (xs ++ byteL x k)) ∧ Below n0 w wr) (fun i _ => 8 - (intOf i).toNat)
  case atStart => exact ⟨0, by omega, rfl, v, n, rfl, hbox, by simpa [byteL] using hrow, Below.refl _ _⟩
  case round =>
    obtain ⟨k, hk, rfl, v, m, hm, hb, hr, hbel⟩ := hrel
    by_cases hlt : k < 8
    · have hc := hb.cell
      have hca : ∀ o, (wr.alloc o).cell? ⟨B, 0, none⟩ = some v := fun o => (hb.alloc o).cell
      have hmb : m + 1 ≤ 140737488355328 := by omega
      have HM := Lib.hid hm
      clear hm
      have hwr : IntKind.i64.wrap (8 * (k : Int)) = 8 * (k : Int) := IntWalk.i64_in _ (by omega)
      have hw0 : (0 : Int) ≤ 8 * (k : Int) := by omega
      have hw1 : (8 * (k : Int)).toNat = 8 * k := by omega
      go_wp2
      go_region_law (refine step_app El8 rfl rfl (by simp [Act.eval]) (by simp [Act.eval]; exact ⟨rfl, rfl⟩) (hr.alloc _) (by first | exact cell_new _ _ _ | exact cell_new_d _ _ _) rfl (by simp; omega) (by simp [maxLen]; omega) (by simp; have := hbel.size; omega) ?_; intro g cap w1 hown hgrow _ _; obtain ⟨c1, f1, H⟩ := box_app hb (by decide) hr (by have := hbel.size; omega) hB hown (grown_undrew hgrow); clear hown hgrow)
      all_goals go_wp2
      all_goals (obtain ⟨g1, g2, g3⟩ := H.out; clear H)
      all_goals go_roundw
      all_goals first
        | (simp [intOf]; omega)
        | exact ⟨k + 1, by omega, by go_num, _, m + 1, by have := HM.out; omega, g1, bytes1_step g2, hbel.trans g3⟩
    · obtain rfl : k = 8 := by omega
      go_wp2
      go_end0
      subst hm
      exact ⟨rfl, v, hb, hr, hbel⟩
theorem bytesL_snoc (l : List Nat) (x : Nat) : bytesL (l ++ [x]) = bytesL l ++ byteL x 8 := by simp [bytesL]
theorem bytesL_length (l : List Nat) : (bytesL l).length = 8 * l.length := by
  induction l with
  | nil => rfl
  | cons x l ih => simp only [bytesL, List.flatMap_cons, List.length_append, byteL_length, List.length_cons] at *; omega
set_option maxHeartbeats 400000 in
theorem bytes_any (v : Value) (ws : List Nat) (w : World) (hv : Reads w v (ints .u64 ws)) (hlen : ws.length ≤ 1048576) :
    Calls Tryd.prog 93 #[v] w fun e w' => ∃ v', e = .returned v' ∧ w'.ownsRow w.heap.size 5 1 v' (8 * ws.length) (ints .u8 (bytesL ws)) ∧ Below w.heap.size w w' := by
  obtain ⟨a, cap, rfl, hcap, hcells⟩ := hv.ints
  have hmk := run_mk El8 0 (8 * ws.length) (by omega) (by omega) (by omega)
  have hwr : IntKind.i64.wrap ((ws.length : Int) * 8) = 8 * (ws.length : Int) := by rw [IntWalk.i64_in _ (by omega)]; omega
  have hm2 : ∀ w, (Instr.makeSlice 77 (.int .i64 0) (.int .i64 (8 * (ws.length : Int)))).run Tryd.prog w = _ := fun w => hmk 0 (8 * (ws.length : Int)) rfl (by omega) w
  have hown := owns_made (e := 5) (z := .int .u8 0) w 0 (8 * ws.length) w.heap.size (by omega) (by simp [maxLen]; omega) (Nat.le_refl _)
  have hbel := (Below.refl w.heap.size w).alloc (Nat.le_refl _) (.cells (madeCells #[.int .u8 0] (8 * ws.length)) 5)
  clear hmk
  go_enter Tryd.func93, Tryd.ntmps93
  go_wp2
  go_loopw [14] (fun i wr => ∃ k : Nat, k ≤ ws.length ∧ i = .int .i64 k ∧ ∃ v, Boxed wr (w.heap.size + 1) 77 v ∧ wr.ownsRow w.heap.size 5 1 v (8 * k) (ints .u8 (bytesL (ws.take k))) ∧ Below w.heap.size w wr) (fun i _ => ws.length - (intOf i).toNat)
  case atStart =>
    refine ⟨0, by omega, rfl, _, by have := Boxed.new (w.alloc (.cells (madeCells #[.int .u8 0] (8 * ws.length)) 5)) 77 (.slice (some ⟨w.heap.size, 0, none⟩) 0 (8 * ws.length)); simpa using this, hown.alloc _, hbel.alloc (by simp) _⟩
  case round =>
    obtain ⟨k, hk, rfl, v, hb, hr, hbl⟩ := hrel
    by_cases hlt : k < ws.length
    · obtain ⟨b, off, rfl, hbs, hc⟩ := hcells (by omega)
      have hck : wr.cell? ⟨b, off + k, none⟩ = some (.int .u64 ((ws[k]?.getD 0 : Nat) : Int)) := (hbl.cell (p := ⟨b, off + k, none⟩) hbs).trans (hc k hlt)
      have hsz := hbl.size
      clear hc hcells
      have hts := Lib.hid (take_snoc ws 0 k hlt)
      go_wp2_with (first | (go_at_call 95; refine (bytes1_any _ _ w.heap.size v (8 * k) _ _ hb hr (by omega) (by omega) (by omega)).mono ?_; rintro e w1 ⟨rfl, v', g1, g2, g3⟩))
      go_roundw
      case rel => exact ⟨k + 1, by omega, by go_num, v', g1, by rw [hts.out, bytesL_snoc, show ws[k]?.getD 0 = ws[k] by simp [hlt]]; exact g2, hbl.trans g3⟩
      case measure => simp [intOf]; omega
    · obtain rfl : k = ws.length := by omega
      have hc := hb.cell
      go_wp2
      go_ret
      exact ⟨v, rfl, by simpa using hr, hbl⟩
theorem ints_app (k : IntKind) (l r : List Nat) : ints k (l ++ r) = ints k l ++ ints k r := by simp
theorem take_eq_succ {α : Type} (xs ys : List α) (k : Nat) (h : xs.take k = ys.take k) (hx : k < xs.length) (hy : k < ys.length) (he : xs[k] = ys[k]) : xs.take (k + 1) = ys.take (k + 1) := by
  rw [List.take_succ_eq_append_getElem hx, List.take_succ_eq_append_getElem hy, h, he]
set_option maxHeartbeats 400000 in
theorem same_any (v1 v2 : Value) (xs ys : List Nat) (w : World) (h1 : Reads w v1 (ints .u64 xs)) (h2 : Reads w v2 (ints .u64 ys)) (hx : xs.length ≤ 1048576) (hy : ys.length ≤ 1048576) :
    Calls Tryd.prog 16 #[v1, v2] w fun e w' => e = .returned (.bool (decide (xs = ys))) ∧ ∃ n, w' = w.drewN n := by
  obtain ⟨a, cap, rfl, hcap, hcells⟩ := h1.ints
  obtain ⟨b, cap2, rfl, hcap2, hcells2⟩ := h2.ints
  clear h1 h2
  by_cases hl : xs.length = ys.length
  · have hbe : (xs.length == ys.length) = true := by simp [hl]
    have HL := Lib.hid hl
    have hle : ys.length ≤ xs.length := by omega
    have hle2 : xs.length ≤ ys.length := by omega
    have hbi : (((xs.length : Nat) : Int) == ((ys.length : Nat) : Int)) = true := by simp; omega
    clear hl hbe
    go_enter Tryd.func16, Tryd.ntmps16
    go_wp2
    go_loopw [5] (fun i wr => ∃ k n : Nat, k ≤ xs.length ∧ i = .int .i64 k ∧ xs.take k = ys.take k ∧ wr = w.drewN n) (fun i _ => xs.length - (intOf i).toNat)
    case atStart => exact ⟨0, 0, by omega, rfl, rfl, rfl⟩
    case round =>
      obtain ⟨k, n, hk, rfl, ht, rfl⟩ := hrel
      have HT := Lib.hid ht
      clear ht
      by_cases hlt : k < xs.length
      · obtain ⟨p, o, rfl, hps, hc⟩ := hcells (by omega)
        obtain ⟨p2, o2, rfl, hps2, hc2⟩ := hcells2 (by omega)
        have hck := hc k hlt
        have hck2 := hc2 k (by omega)
        have hk2 : k < ys.length := by omega
        clear hc hc2 hcells hcells2
        simp only [hlt, hk2, getElem?_pos, Option.getD_some] at hck hck2
        obtain ⟨c, hce⟩ : ∃ c, xs[k] = c := ⟨_, rfl⟩
        obtain ⟨d, hde⟩ : ∃ d, ys[k] = d := ⟨_, rfl⟩
        rw [hce] at hck
        rw [hde] at hck2
        have i1 : (0 : Int) ≤ (k : Int) := by omega
        have i2 : (k : Int) < (xs.length : Int) := by omega
        have i3 : (k : Int) < (ys.length : Int) := by omega
        have Hc := Lib.hid hce
        have Hd := Lib.hid hde
        clear hce hde
        by_cases hcd : c = d
        · subst hcd
          go_wp2
          go_quiet (fail)
          go_wp2
          go_roundw
          case rel => exact ⟨k + 1, _, by omega, by go_num, take_eq_succ xs ys k HT.out hlt hk2 (by rw [Hc.out, Hd.out]), rfl⟩
          case measure => simp [intOf]; omega
        · have hne : ((c : Int) == (d : Int)) = false := by simp; omega
          go_wp2
          go_quiet (fail)
          go_wp2
          go_ret
          refine ⟨ret1 (congrArg Value.bool ?_), n + nq, by simp only [World.drewN_drewN]⟩
          symm
          rw [decide_eq_false_iff_not]
          intro e
          subst e
          exact hcd (by rw [← Hc.out, ← Hd.out])
      · obtain rfl : k = xs.length := by omega
        go_wp2
        go_ret
        refine ⟨ret1 (congrArg Value.bool ?_), _, rfl⟩
        symm
        rw [decide_eq_true_eq]
        have e := HT.out
        rw [List.take_length, HL.out, List.take_length] at e
        exact e
  · have hbi : (((xs.length : Nat) : Int) == ((ys.length : Nat) : Int)) = false := by simp; omega
    have HL := Lib.hid hl
    clear hl
    go_enter Tryd.func16, Tryd.ntmps16
    go_wp2
    go_ret
    refine ⟨ret1 (congrArg Value.bool ?_), 0, rfl⟩
    symm
    rw [decide_eq_false_iff_not]
    intro e
    exact HL.out (by rw [e])
/-- The number that bytes make, the lowest first. -/
def valL : List Nat → Nat
  | [] => 0
  | b :: r => b + 256 * valL r
theorem valL_lt (l : List Nat) (h : ∀ x ∈ l, x < 256) : valL l < 256 ^ l.length := by
  induction l with
  | nil => simp [valL]
  | cons b r ih =>
    have h1 := h b (by simp)
    have h2 := ih (fun x hx => h x (by simp [hx]))
    simp only [valL, List.length_cons, Nat.pow_succ]
    omega
theorem valL_drop (l : List Nat) (j : Nat) (h : j < l.length) : valL (l.drop j) = l[j]?.getD 0 + 256 * valL (l.drop (j + 1)) := by
  rw [List.drop_eq_getElem_cons h]
  simp [valL, h]
set_option maxHeartbeats 400000 in
theorem word_any (v : Value) (bs : List Nat) (w : World) (hv : Reads w v (ints .u8 bs)) (hb : ∀ x ∈ bs, x < 256) (hlen : bs.length ≤ 1048576) :
    Calls Tryd.prog 51 #[v] w fun e w' => e = .returned (.int .u64 (valL (bs.take 8) : Nat)) ∧ w = w' := by
  obtain ⟨a, cap, rfl, hcap, hcells⟩ := hv.ints
  rcases Nat.lt_or_ge bs.length 8 with h8 | h8
  · have h8' : (bs.length : Int) < 8 := by omega
    go_enter Tryd.func51, Tryd.ntmps51
    go_wp2
    go_loop [3, 4] (fun y i => ∃ j q : Nat, j ≤ bs.length ∧ i = .int .i64 ((j : Int) - 1) ∧ y = .int .u64 q ∧ q = valL ((bs.take bs.length).drop j)) (fun _ i => (intOf i + 1).toNat)
    case atStart => exact ⟨bs.length, 0, by omega, by first | rfl | go_num, rfl, by simp [valL]⟩
    case round =>
      obtain ⟨j, q, hj, rfl, rfl, hq⟩ := hrel
      have HQ := Lib.hid hq
      clear hq
      by_cases hpos : 0 < j
      · obtain ⟨b, off, rfl, hbs, hc⟩ := hcells (by omega)
        obtain ⟨i, rfl⟩ : ∃ i, j = i + 1 := ⟨j - 1, by omega⟩
        have hil : i < bs.length := by omega
        have hck : w.cell? ⟨b, off + i, none⟩ = some (.int .u8 ((bs[i]?.getD 0 : Nat) : Int)) := hc i hil
        have hb8 : bs[i]?.getD 0 < 256 := by simp [hil]; exact hb _ (List.getElem_mem hil)
        have hql : q < 256 ^ 7 := by
          rw [HQ.out]
          refine Nat.lt_of_lt_of_le (valL_lt _ fun x hx => hb x (List.mem_of_mem_take (List.mem_of_mem_drop hx))) (Nat.pow_le_pow_right (by decide) ?_)
          simp; omega
        have hqn0 : bs[i]?.getD 0 + 256 * q = valL ((bs.take bs.length).drop i) := by
          rw [valL_drop _ i (by simp; omega), ← HQ.out]
          simp [show i < bs.length by omega]
        obtain ⟨c, hce⟩ : ∃ c, bs[i]?.getD 0 = c := ⟨_, rfl⟩
        rw [hce] at hck hb8 hqn0
        have hqn := Lib.hid hqn0
        clear hc hcells hce hqn0
        go_wp2
        go_round
        case rel => exact ⟨i, c + 256 * q, by omega, by go_num, by go_num, hqn.out⟩
        case measure => simp [intOf]
      · obtain rfl : j = 0 := by omega
        go_wp2
        go_ret
        exact ⟨ret1 (int_eq (by rw [show bs.take 8 = bs.take bs.length from (by rw [List.take_of_length_le (by omega), List.take_length])]; simpa using congrArg (Nat.cast (R := Int)) HQ.out)), rfl⟩
  · have h8' : (8 : Int) ≤ bs.length := by omega
    go_enter Tryd.func51, Tryd.ntmps51
    go_wp2
    go_loop [3, 4] (fun y i => ∃ j q : Nat, j ≤ 8 ∧ i = .int .i64 ((j : Int) - 1) ∧ y = .int .u64 q ∧ q = valL ((bs.take 8).drop j)) (fun _ i => (intOf i + 1).toNat)
    case atStart => exact ⟨8, 0, by omega, by first | rfl | go_num, rfl, by simp [valL]⟩
    case round =>
      obtain ⟨j, q, hj, rfl, rfl, hq⟩ := hrel
      have HQ := Lib.hid hq
      clear hq
      by_cases hpos : 0 < j
      · obtain ⟨b, off, rfl, hbs, hc⟩ := hcells (by omega)
        obtain ⟨i, rfl⟩ : ∃ i, j = i + 1 := ⟨j - 1, by omega⟩
        have hil : i < bs.length := by omega
        have hck : w.cell? ⟨b, off + i, none⟩ = some (.int .u8 ((bs[i]?.getD 0 : Nat) : Int)) := hc i hil
        have hb8 : bs[i]?.getD 0 < 256 := by simp [hil]; exact hb _ (List.getElem_mem hil)
        have hql : q < 256 ^ 7 := by
          rw [HQ.out]
          refine Nat.lt_of_lt_of_le (valL_lt _ fun x hx => hb x (List.mem_of_mem_take (List.mem_of_mem_drop hx))) (Nat.pow_le_pow_right (by decide) ?_)
          simp; omega
        have hqn0 : bs[i]?.getD 0 + 256 * q = valL ((bs.take 8).drop i) := by
          rw [valL_drop _ i (by simp; omega), ← HQ.out]
          simp [show i < 8 by omega]
        obtain ⟨c, hce⟩ : ∃ c, bs[i]?.getD 0 = c := ⟨_, rfl⟩
        rw [hce] at hck hb8 hqn0
        have hqn := Lib.hid hqn0
        clear hc hcells hce hqn0
        go_wp2
        go_round
        case rel => exact ⟨i, c + 256 * q, by omega, by go_num, by go_num, hqn.out⟩
        case measure => simp [intOf]
      · obtain rfl : j = 0 := by omega
        go_wp2
        go_ret
        exact ⟨ret1 (int_eq (by rw [show bs.take 8 = bs.take 8 from rfl]; simpa using congrArg (Nat.cast (R := Int)) HQ.out)), rfl⟩
/-- The word number j of bytes that are laid. -/
def wordAt (bs : List Nat) (j : Nat) : Nat := valL ((bs.drop (8 * j)).take 8)
/-- So many words of bytes that are laid. -/
def layN (bs : List Nat) (n : Nat) : List Nat := (List.range n).map (wordAt bs)
def layL (bs : List Nat) : List Nat := layN bs ((bs.length + 7) / 8)
theorem layN_length (bs : List Nat) (n : Nat) : (layN bs n).length = n := by simp [layN]
theorem layN_succ (bs : List Nat) (n : Nat) : layN bs (n + 1) = layN bs n ++ [wordAt bs n] := by simp [layN, List.range_succ]
theorem Reads.from {w : World} {b off len cap : Nat} {xs : List Value} (h : Reads w (.slice (some ⟨b, off, none⟩) len cap) xs) (j : Nat) (hj : j ≤ len) : Reads w (.slice (some ⟨b, off + j, none⟩) (len - j) (cap - j)) (xs.drop j) := by
  obtain ⟨a', cap', e, hc, h⟩ := h
  cases e
  refine ⟨some ⟨b, off + j, none⟩, cap - j, by simp, by simp; omega, fun hne => ?_⟩
  obtain ⟨b', off', ha, hlt, hcell⟩ := h (by intro e; simp [e] at hne)
  cases ha
  refine ⟨b, off + j, rfl, hlt, fun i hi => ?_⟩
  simp only [List.length_drop] at hi
  rw [Nat.add_assoc, hcell (j + i) (by omega)]
  simp
set_option maxHeartbeats 400000 in
theorem rlay_any (v : Value) (bs : List Nat) (w : World) (hv : Reads w v (ints .u8 bs)) (hb : ∀ x ∈ bs, x < 256) (hlen : bs.length ≤ 1048576) :
    Calls Tryd.prog 32 #[v] w fun e w' => ∃ v', e = .returned v' ∧ w'.ownsRow w.heap.size 41 1 v' ((bs.length + 7) / 8) (ints .u64 (layL bs)) ∧ Below w.heap.size w w' := by
  obtain ⟨a, cap, rfl, hcap, hcells⟩ := hv.ints
  obtain ⟨N, hN⟩ : ∃ N, (bs.length + 7) / 8 = N := ⟨_, rfl⟩
  have hN1 : 8 * N < bs.length + 8 := by omega
  have hN2 : bs.length ≤ 8 * N := by omega
  unfold layL
  rw [hN]
  clear hN
  go_enter Tryd.func32, Tryd.ntmps32
  go_wp2
  go_loopw [3, 4] (fun v i wr => ∃ k : Nat, k ≤ N ∧ i = .int .i64 (8 * (k : Int)) ∧ wr.ownsRow w.heap.size 41 1 v k (ints .u64 (layN bs k)) ∧ Below w.heap.size w wr) (fun _ i _ => bs.length + 8 - (intOf i).toNat)
  case atStart => exact ⟨0, by omega, rfl, World.ownsRow_nil _ _ _ _, Below.refl _ _⟩
  case round =>
    obtain ⟨k, hk, rfl, hr, hbl⟩ := hrel
    have hsz := hbl.size
    by_cases hlt : 8 * k < bs.length
    · obtain ⟨b, off, rfl, hbs, hc⟩ := hcells (by omega)
      have hkN : k < N := by omega
      have hrd := Lib.hid (hv.same hsz hbl.block)
      clear hc hcells hv
      have hd : ∀ x ∈ bs.drop (8 * k), x < 256 := fun x hx => hb x (List.mem_of_mem_drop hx)
      have Hd := Lib.hid hd
      clear hd hb
      go_wp2_with (first | (go_at_call 51; refine (word_any _ (bs.drop (8 * k)) _ (by have := hrd.out.from (8 * k) (by omega); simpa using this) Hd.out (by simp; omega)).mono ?_; rintro e w1 ⟨rfl, rfl⟩) | (at_builtin; go_must (refine list_app El64 rfl rfl (by first | (simp [Act.eval]; done) | (simp [Act.eval]; exact ⟨rfl, rfl⟩) | (simp [Act.eval]; rfl)) (by first | (simp [Act.eval]; done) | (simp [Act.eval]; exact ⟨rfl, rfl⟩) | (simp [Act.eval]; rfl)) (hr.alloc _) (by first | exact cell_new _ _ _ | exact cell_new_d _ _ _) rfl (by first | omega | (simp; omega)) (by simp [maxLen]; omega) (by first | omega | (simp; omega)) ?_); intro g cp w1 hown hgrow _ _; have hb1 := below_app hr (by omega) hgrow; clear hgrow))
      go_roundw
      case rel => exact ⟨k + 1, by omega, by go_num, by rw [layN_succ, ints_app]; exact hown, hbl.trans hb1⟩
      case measure => simp [intOf]; omega
    · obtain rfl : k = N := by omega
      go_wp2
      go_ret
      exact ⟨_, rfl, hr, hbl⟩
theorem wordsFor_any (n N : Nat) (h : n ≤ 9223372036854775807) (hN : Hid ((n + 7) / 8 = N)) (w : World) : Calls Tryd.prog 84 #[.int .i64 n] w fun e w' => e = .returned (.int .i64 N) ∧ w = w' := by
  have HN := hN.out
  clear hN
  subst HN
  by_cases h8 : n % 8 = 0
  · have hb : (((n : Nat) : Int) % 8 == 0) = true := by simp; omega
    go_enter Tryd.func84, Tryd.ntmps84
    go_wp2
    go_ret
    exact ⟨ret1 (int_eq (by omega)), rfl⟩
  · have hb : (((n : Nat) : Int) % 8 == 0) = false := by simp; omega
    go_enter Tryd.func84, Tryd.ntmps84
    go_wp2
    go_ret
    exact ⟨ret1 (int_eq (by omega)), rfl⟩
theorem or_shift (q c s : Nat) (hq : q < 256 ^ s) (hc : c < 256) (hs : s < 8) : bits .or .u64 (q : Int) (IntKind.u64.wrap ((c : Int) * 2 ^ (8 * s))) = ((q + c * 256 ^ s : Nat) : Int) := by
  have e8 : (256 : Nat) ^ s = 2 ^ (8 * s) := by rw [show (256 : Nat) = 2 ^ 8 by rfl, ← Nat.pow_mul]
  have hcs : c * 256 ^ s + 256 ^ s ≤ 256 ^ 8 := by
    have h1 : (c + 1) * 256 ^ s ≤ 256 * 256 ^ s := Nat.mul_le_mul_right _ (by omega)
    have h2 : 256 ^ (s + 1) ≤ 256 ^ 8 := Nat.pow_le_pow_right (by decide) (by omega)
    rw [Nat.pow_succ] at h2
    rw [Nat.add_mul, Nat.one_mul] at h1
    omega
  have ew : IntKind.u64.wrap ((c : Int) * 2 ^ (8 * s)) = ((c * 256 ^ s : Nat) : Int) := by
    rw [IntKind.wrap_u64, e8]
    have : ((c : Int) * 2 ^ (8 * s)) = ((c * 2 ^ (8 * s) : Nat) : Int) := by simp
    rw [this, ← e8]
    omega
  rw [ew, u64_or_nat q (c * 256 ^ s) (by omega) (by omega), Nat.or_comm, nat_join (8 * s) _ _ (by rw [e8]; exact Nat.mul_mod_left _ _) (by rw [← e8]; exact hq)]
  congr 1
  omega
set_option maxHeartbeats 400000 in
theorem lay1_any (i N O Bx g b off len cap q c : Nat) (w : World) (hi : i ≤ 1048576) (hO : Boxed w O 28 (.slice (some ⟨g, 0, none⟩) N N)) (hB : Boxed w Bx 77 (.slice (some ⟨b, off, none⟩) len cap))
    (hil : i < len) (hiN : i / 8 < N) (hcell : w.cell? ⟨b, off + i, none⟩ = some (.int .u8 c)) (hg : w.cell? ⟨g, i / 8, none⟩ = some (.int .u64 q)) (hf : w.frozen? ⟨g, i / 8, none⟩ = false) (hq : q < 256 ^ (i % 8)) (hc : c < 256) :
    Calls Tryd.prog 85 #[.int .i64 i, .pointer (some ⟨O, 0, none⟩), .pointer (some ⟨Bx, 0, none⟩)] w fun e w' => e = .returned (.tuple #[]) ∧ w' = (w.setCell ⟨g, i / 8, none⟩ (.int .u64 (q + c * 256 ^ (i % 8) : Nat))).drew := by
  have E := Lib.hid (or_shift q c (i % 8) hq hc (Nat.mod_lt _ (by decide)))
  have o1 := hO.cell
  have b1 := hB.cell
  have i1 : (i : Int) < (len : Int) := by omega
  have i2 : ((i : Int) / 8) < (N : Int) := by omega
  have i3 : (0 : Int) ≤ (i : Int) / 8 := by omega
  have i4 : ((i : Int) / 8).toNat = i / 8 := by omega
  have hwr : IntKind.i64.wrap (8 * ((i : Int) % 8)) = 8 * ((i : Int) % 8) := IntWalk.i64_in _ (by omega)
  have hw0 : (0 : Int) ≤ 8 * ((i : Int) % 8) := by omega
  have hw1 : (8 * ((i : Int) % 8)).toNat = 8 * (i % 8) := by omega
  clear hq
  go_enter Tryd.func85, Tryd.ntmps85
  go_wp2
  go_region
  go_end0
  refine ⟨rfl, ?_⟩
  rw [← E.out]
theorem wordAt_take (bs : List Nat) (k j : Nat) : wordAt (bs.take k) j = valL ((bs.drop (8 * j)).take (min (k - 8 * j) 8)) := by
  unfold wordAt
  rw [List.drop_take, List.take_take, Nat.min_comm]
theorem valL_append (l r : List Nat) : valL (l ++ r) = valL l + 256 ^ l.length * valL r := by
  induction l with
  | nil => simp [valL]
  | cons b l ih => simp only [List.cons_append, valL, ih, List.length_cons, Nat.pow_succ, Nat.mul_add]; rw [Nat.mul_comm (256 ^ l.length) 256, Nat.mul_assoc]; omega
theorem wordAt_other (bs : List Nat) (k j : Nat) (h : j ≠ k / 8) : wordAt (bs.take (k + 1)) j = wordAt (bs.take k) j := by
  rw [wordAt_take, wordAt_take]
  congr 2
  omega
theorem wordAt_step (bs : List Nat) (k : Nat) (h : k < bs.length) : wordAt (bs.take (k + 1)) (k / 8) = wordAt (bs.take k) (k / 8) + bs[k]?.getD 0 * 256 ^ (k % 8) := by
  rw [wordAt_take, wordAt_take]
  rw [show min (k + 1 - 8 * (k / 8)) 8 = k % 8 + 1 by omega, show min (k - 8 * (k / 8)) 8 = k % 8 by omega]
  rw [take_snoc _ 0 _ (by simp; omega), valL_append]
  have hl : ((bs.drop (8 * (k / 8))).take (k % 8)).length = k % 8 := by simp; omega
  rw [hl]
  simp only [valL, List.getElem?_drop]
  rw [show 8 * (k / 8) + k % 8 = k by omega]
  simp [Nat.mul_comm]
theorem wordAt_small (bs : List Nat) (k : Nat) (h : ∀ x ∈ bs, x < 256) : wordAt (bs.take k) (k / 8) < 256 ^ (k % 8) := by
  rw [wordAt_take]
  refine Nat.lt_of_lt_of_le (valL_lt _ fun x hx => h x (List.mem_of_mem_drop (List.mem_of_mem_take hx))) (Nat.pow_le_pow_right (by decide) ?_)
  simp; omega
theorem layN_set (bs : List Nat) (k N : Nat) (h : k < bs.length) (hk : k / 8 < N) : (layN (bs.take k) N).set (k / 8) (wordAt (bs.take k) (k / 8) + bs[k]?.getD 0 * 256 ^ (k % 8)) = layN (bs.take (k + 1)) N := by
  apply List.ext_getElem
  · simp [layN_length]
  · intro j h1 h2
    simp only [List.getElem_set]
    by_cases e : k / 8 = j
    · subst e; simp [layN, ← wordAt_step bs k h]
    · simp [e, layN, wordAt_other bs k j (fun h => e h.symm)]
set_option maxHeartbeats 400000 in
theorem lay_any (v : Value) (bs : List Nat) (N : Nat) (w : World) (hv : Reads w v (ints .u8 bs)) (hb : ∀ x ∈ bs, x < 256) (hlen : bs.length ≤ 1048576) (hN : (bs.length + 7) / 8 = N) :
    Calls Tryd.prog 74 #[v] w fun e w' => ∃ g, e = .returned (.slice (some ⟨g, 0, none⟩) N N) ∧ w.heap.size ≤ g ∧ RowL w' g 41 (ints .u64 (layL bs)) ∧ Below w.heap.size w w' := by
  obtain ⟨a, cap, rfl, hcap, hcells⟩ := hv.ints
  have hN1 : 8 * N < bs.length + 8 := by omega
  have hN2 : bs.length ≤ 8 * N := by omega
  have hmk := run_mk El64 N N (by omega) (by omega) (by omega) (N : Int) (N : Int) rfl rfl
  unfold layL
  have HN := Lib.hid hN
  rw [hN]
  clear hN
  go_enter Tryd.func74, Tryd.ntmps74
  go_wp2_with (first | (go_at_call 84; refine (wordsFor_any _ N (by omega) HN _).mono ?_; rintro e w1 ⟨rfl, rfl⟩))
  go_loopw [13] (fun i wr => ∃ k : Nat, k ≤ bs.length ∧ i = .int .i64 k ∧ Boxed wr w.heap.size 77 (.slice a bs.length cap) ∧ Boxed wr (w.heap.size + 1 + 1) 28 (.slice (some ⟨w.heap.size + 1, 0, none⟩) N N) ∧ RowL wr (w.heap.size + 1) 41 (ints .u64 (layN (bs.take k) N)) ∧ Below w.heap.size w wr) (fun i _ => bs.length - (intOf i).toNat)
  case atStart =>
    refine ⟨0, by omega, rfl, ((Boxed.new w _ _).alloc _).alloc _, ?_, ?_, (((Below.refl _ w).alloc (Nat.le_refl _) _).alloc (by simp) _).alloc (by simp; omega) _⟩
    · have h := Boxed.new ((w.alloc (.cells #[.slice a bs.length cap] 77)).alloc (.cells (madeCells #[.int .u64 0] N) 41)) 28 (.slice (some ⟨w.heap.size + 1, 0, none⟩) N N)
      simpa using h
    · have h := (RowL.made (w.alloc (.cells #[.slice a bs.length cap] 77)) 41 (.int .u64 0) N).alloc (.cells #[.slice (some ⟨w.heap.size + 1, 0, none⟩) N N] 28)
      have e : ints .u64 (layN (bs.take 0) N) = List.replicate N (.int .u64 0) := by
        apply List.ext_getElem
        · simp [layN_length]
        · intro j h1 h2; simp [layN, wordAt, valL]
      rw [e]
      simpa using h
  case round =>
    obtain ⟨k, hk, rfl, hbb, hbo, hrow, hbl⟩ := hrel
    by_cases hlt : k < bs.length
    · obtain ⟨b, off, rfl, hbs, hc⟩ := hcells (by omega)
      have hck : wr.cell? ⟨b, off + k, none⟩ = some (.int .u8 ((bs[k]?.getD 0 : Nat) : Int)) := (hbl.cell (p := ⟨b, off + k, none⟩) hbs).trans (hc k hlt)
      have hb8 : bs[k]?.getD 0 < 256 := by simp [hlt]; exact hb _ (List.getElem_mem hlt)
      have hk8 : k / 8 < N := by omega
      have hgk : wr.cell? ⟨w.heap.size + 1, k / 8, none⟩ = some (.int .u64 ((wordAt (bs.take k) (k / 8) : Nat) : Int)) := hrow.cell (by simp [layN, hk8])
      have hgf := hrow.frozen (k / 8)
      have hq := wordAt_small bs k hb
      have hst0 := layN_set bs k N hlt hk8
      obtain ⟨c, hce⟩ : ∃ c, bs[k]?.getD 0 = c := ⟨_, rfl⟩
      obtain ⟨q, hqe⟩ : ∃ q, wordAt (bs.take k) (k / 8) = q := ⟨_, rfl⟩
      rw [hce] at hck hb8 hst0
      rw [hqe] at hgk hq hst0
      have hst := Lib.hid hst0
      clear hst0 hce hqe
      have hl1 := Lib.hid (lay1_any k N (w.heap.size + 1 + 1) w.heap.size (w.heap.size + 1) b off bs.length cap _ _ wr (by omega) hbo hbb hlt hk8 hck hgk hgf hq hb8)
      clear hc hcells hck hgk hgf hq hb8 hb hv
      go_wp2_with (first | (go_at_call 85; refine hl1.out.mono ?_; rintro e w1 ⟨rfl, rfl⟩))
      go_roundw
      case rel =>
        refine ⟨k + 1, by omega, by go_num, box_other hbb (by simp) _, box_other hbo (by simp) _, ?_, (hbl.setCell (p := ⟨w.heap.size + 1, k / 8, none⟩) (by simp) _).drew⟩
        rw [← hst.out]
        have h := (hrow.set (k / 8) (.int .u64 (q + c * 256 ^ (k % 8) : Nat))).drew
        have e : ints .u64 ((layN (bs.take k) N).set (k / 8) (q + c * 256 ^ (k % 8))) = (ints .u64 (layN (bs.take k) N)).set (k / 8) (.int .u64 (q + c * 256 ^ (k % 8) : Nat)) := by simp [List.map_set]
        rw [e]
        first | exact h | (simp at h ⊢; exact h)
      case measure => simp [intOf]; omega
    · obtain rfl : k = bs.length := by omega
      have hbo' := hbo.cell
      go_wp2
      go_ret
      exact ⟨_, rfl, by omega, by simpa using hrow, hbl⟩
/-- Are all of these 0? -/
def zerosB (l : List Nat) : Bool := l.all (· == 0)
theorem all_snoc (l : List Nat) (k : Nat) (h : k < l.length) : zerosB (l.take (k + 1)) = (zerosB (l.take k) && (l[k]?.getD 0 == 0)) := by
  rw [take_snoc l 0 k h]; simp [zerosB]
theorem zerosB_take {l : List Nat} {k : Nat} (h : zerosB (l.take k) = false) : zerosB l = false := by
  unfold zerosB at *
  rw [List.all_eq_false] at h ⊢
  obtain ⟨x, hx, hx0⟩ := h
  exact ⟨x, List.mem_of_mem_take hx, hx0⟩
set_option maxHeartbeats 800000 in
theorem take_any (v : Value) (ws : List Nat) (m : Nat) (w : World) (hv : Reads w v (ints .u64 ws)) (hlen : ws.length ≤ 1048576) (hm : (m + 7) / 8 = ws.length) :
    Calls Tryd.prog 86 #[v, .int .i64 m] w fun e w' => ∃ v' no, e = .returned (.tuple #[v', .int .i64 no]) ∧ Below w.heap.size w w' ∧
      ((zerosB ((bytesL ws).drop m) = true ∧ no = 0 ∧ Reads w' v' (ints .u8 ((bytesL ws).take m))) ∨ (zerosB ((bytesL ws).drop m) = false ∧ no = 2 ∧ v' = .slice none 0 0)) := by
  have hby := Lib.hid (bytes_any v ws w hv hlen)
  obtain ⟨a, cap, rfl, hcap, hcells⟩ := hv.ints
  have hbe : (((ws.length : Nat) : Int) != ((ws.length : Nat) : Int)) = false := by simp
  have HN := Lib.hid hm
  obtain ⟨L, hL⟩ : ∃ L, 8 * ws.length = L := ⟨_, rfl⟩
  have hm1 : m ≤ L := by omega
  have hL2 : L ≤ 8388608 := by omega
  have HL := Lib.hid hL
  have hlb := bytesL_length ws
  rw [hL] at hlb
  clear hcells hv hm hL
  obtain ⟨bs, hbs⟩ : ∃ bs, bytesL ws = bs := ⟨_, rfl⟩
  rw [hbs] at hby hlb ⊢
  clear hbs
  go_enter Tryd.func86, Tryd.ntmps86
  go_wp2_with (first | (go_at_call 84; refine (wordsFor_any m _ (by omega) HN _).mono ?_; rintro e w1 ⟨rfl, rfl⟩) | (go_at_call 93; refine hby.out.mono ?_; rintro e w1 ⟨v', rfl, hown, hbl⟩; have hrd := reads_of_owns hown; obtain ⟨a', cap', rfl, hcap', _⟩ := hrd.intsN hlb; obtain ⟨A, hA1, hA2⟩ := run_from El8 a' L cap' m hm1 hcap'; have hA3 := Lib.hid (hA2 w1 _ hrd); have hU := run_upto3 El8 a' L cap' m (by omega); clear hA2 hown; have HRD := Lib.hid hrd; clear hrd))
  have hz : Reads w1 (.slice A (L - m) (cap' - m)) (ints .u8 (bs.drop m)) := by have h := hA3.out; rw [← List.map_drop] at h; exact h
  have hlz : (bs.drop m).length = L - m := by simp [hlb]
  obtain ⟨zs, hzs⟩ : ∃ zs, bs.drop m = zs := ⟨_, rfl⟩
  rw [hzs] at hz hlz
  have HZ := Lib.hid hzs
  obtain ⟨A2, c2, he, hc2, hcz⟩ := hz.intsN hlz
  simp only [Value.slice.injEq] at he
  obtain ⟨rfl, _, rfl⟩ := he
  clear hz hA3 hA1 hzs
  obtain ⟨D, hD⟩ : ∃ D, L - m = D := ⟨_, rfl⟩
  rw [hD] at hlz hcz ⊢
  have hD2 : D ≤ 8388608 := by omega
  clear hD hby
  go_loop [24] (fun i => ∃ k : Nat, k ≤ D ∧ i = .int .i64 k ∧ zerosB (zs.take k) = true) (fun i => D - (intOf i).toNat)
  case atStart => exact ⟨0, by omega, rfl, rfl⟩
  case round =>
    obtain ⟨k, hk, rfl, hall⟩ := hrel
    have HA := Lib.hid hall
    clear hall
    by_cases hlt : k < D
    · obtain ⟨b, off, rfl, hbs, hc⟩ := hcz (by omega)
      have hck := hc k hlt
      have hsn := Lib.hid (all_snoc zs k (by omega))
      have hkz := Lib.hid (show k < zs.length by omega)
      obtain ⟨c, hce⟩ : ∃ c, zs[k]?.getD 0 = c := ⟨_, rfl⟩
      rw [hce] at hck hsn
      clear hc hcz hce hlz
      by_cases h0 : c = 0
      · subst h0
        go_wp2
        go_round
        case rel => exact ⟨k + 1, by omega, by go_num, by rw [hsn.out, HA.out]; rfl⟩
        case measure => simp [intOf]; omega
      · have hne : ((c : Int) != 0) = true := by simp; exact h0
        go_wp2
        go_ret2
        refine ⟨_, _, rfl, hbl, .inr ⟨?_, rfl, rfl⟩⟩
        rw [HZ.out]
        have hs := hsn.out
        rw [HA.out] at hs
        exact zerosB_take (by rw [hs]; simp [h0])
    · obtain rfl : k = D := by omega
      clear hcz
      go_wp2
      go_ret2
      refine ⟨_, _, rfl, hbl, .inl ⟨?_, rfl, ?_⟩⟩
      · rw [HZ.out]
        have h := HA.out
        rw [List.take_of_length_le (by omega)] at h
        exact h
      · have h := HRD.out.take m hm1 m (Nat.le_refl _)
        first | exact h | (rw [← List.map_take] at h; exact h)
theorem byteL_get (x n i : Nat) (h : i < n) : (byteL x n)[i]? = some (x / 256 ^ i % 256) := by simp [byteL, h]
theorem bytesL_get (ws : List Nat) : ∀ i, i < 8 * ws.length → (bytesL ws)[i]? = some (ws[i / 8]?.getD 0 / 256 ^ (i % 8) % 256) := by
  induction ws with
  | nil => intro i h; simp at h
  | cons x l ih =>
    intro i h
    have e : bytesL (x :: l) = byteL x 8 ++ bytesL l := by simp [bytesL]
    rw [e]
    by_cases h8 : i < 8
    · rw [List.getElem?_append_left (by rw [byteL_length]; exact h8), byteL_get x 8 i h8, show i / 8 = 0 by omega, show i % 8 = i by omega]
      rfl
    · rw [List.getElem?_append_right (by rw [byteL_length]; omega), byteL_length, ih (i - 8) (by simp at h; omega), show (i - 8) % 8 = i % 8 by omega, show i / 8 = (i - 8) / 8 + 1 by omega]
      simp
theorem valL_get (l : List Nat) (h : ∀ x ∈ l, x < 256) : ∀ k, valL l / 256 ^ k % 256 = l[k]?.getD 0 := by
  induction l with
  | nil => intro k; simp [valL]
  | cons b r ih =>
    intro k
    have hb := h b (by simp)
    have ih' := ih (fun x hx => h x (by simp [hx]))
    cases k with
    | zero => simp [valL]; omega
    | succ k =>
      have e : valL (b :: r) / 256 ^ (k + 1) = valL r / 256 ^ k := by
        rw [Nat.pow_succ, Nat.mul_comm, ← Nat.div_div_eq_div_mul]
        congr 1
        simp only [valL]
        omega
      rw [e, ih' k]
      simp
theorem bytes_lay (bs : List Nat) (h : ∀ x ∈ bs, x < 256) (n i : Nat) (hi : i < 8 * n) : (bytesL (layN bs n))[i]? = some (bs[i]?.getD 0) := by
  rw [bytesL_get _ i (by rw [layN_length]; exact hi)]
  congr 1
  have hj : i / 8 < n := by omega
  have e : (layN bs n)[i / 8]?.getD 0 = wordAt bs (i / 8) := by simp [layN, hj]
  rw [e]
  unfold wordAt
  rw [valL_get _ (fun x hx => h x (List.mem_of_mem_drop (List.mem_of_mem_take hx)))]
  rw [List.getElem?_take, if_pos (by omega), List.getElem?_drop, show 8 * (i / 8) + i % 8 = i by omega]
theorem layL_length (bs : List Nat) : (layL bs).length = (bs.length + 7) / 8 := layN_length _ _
theorem lay_take (bs : List Nat) (h : ∀ x ∈ bs, x < 256) : (bytesL (layL bs)).take bs.length = bs := by
  apply List.ext_getElem?
  intro i
  rw [List.getElem?_take]
  by_cases hi : i < bs.length
  · rw [if_pos hi]
    unfold layL
    rw [bytes_lay bs h _ i (by omega)]
    simp [hi]
  · rw [if_neg hi, List.getElem?_eq_none (by omega)]
theorem lay_drop (bs : List Nat) (h : ∀ x ∈ bs, x < 256) : zerosB ((bytesL (layL bs)).drop bs.length) = true := by
  unfold zerosB
  rw [List.all_eq_true]
  intro x hx
  obtain ⟨i, hi, rfl⟩ := List.mem_iff_getElem.1 hx
  simp only [List.length_drop, bytesL_length, layL_length] at hi
  have e := bytes_lay bs h ((bs.length + 7) / 8) (bs.length + i) (by omega)
  rw [List.getElem?_eq_none (l := bs) (by omega)] at e
  have e2 : ((bytesL (layL bs)).drop bs.length)[i]? = some 0 := by rw [List.getElem?_drop]; exact e
  rw [List.getElem?_eq_getElem (by simp [bytesL_length, layL_length]; omega)] at e2
  simpa using e2
theorem lay_small (bs : List Nat) (h : ∀ x ∈ bs, x < 256) : ∀ x ∈ layL bs, x < 18446744073709551616 := by
  intro x hx
  simp only [layL, layN, List.mem_map] at hx
  obtain ⟨j, _, rfl⟩ := hx
  unfold wordAt
  refine Nat.lt_of_lt_of_le (valL_lt _ fun x hx => h x (List.mem_of_mem_drop (List.mem_of_mem_take hx))) ?_
  have : ((bs.drop (8 * j)).take 8).length ≤ 8 := by simp; omega
  exact Nat.le_trans (Nat.pow_le_pow_right (by decide) this) (by decide)
set_option linter.unusedVariables false
set_option linter.unusedSimpArgs false
/-- A string's bytes, as numbers. -/
def nbL (l : Bs) : List Nat := l.map UInt8.toNat
theorem nbL_len (l : Bs) : (nbL l).length = l.length := by simp [nbL]
theorem nbL_lt (l : Bs) : ∀ x ∈ nbL l, x < 256 := by
  intro x hx
  obtain ⟨c, _, rfl⟩ := List.mem_map.1 hx
  exact c.toNat_lt
section
variable {P : Program} {w : World} {t u e : TypeId} {ud : TypeDesc} {o : Oper} {x y : Operand} {n i : Nat} {D : List Deferred} {M : Slots} {ops : Array Oper} {rest : List Oper} {r : Option Nat} {Q : Exit → Act → World → Prop} {ok : World → Prop} {K : Slots → World → Prop}
theorem conv_bytes (l : Bs) (hs : P.underlying t = some ud) (hd : P.underlying u = some (.slice e)) (he : P.underlying e = some (.int .u8)) : ∃ v w1, (convert t u (strV l)).run P w = .ok v w1 ∧ Reads w1 v (ints .u8 (nbL l)) ∧ Below w.heap.size w w1 ∧ ∃ c, v = .slice (some ⟨w.heap.size, 0, none⟩) l.length c := by
  refine ⟨_, _, Lib.run_convert_string_bytes w t u e ⟨l.toArray⟩ hs hd he, ?_, ?_, _, rfl⟩
  · refine ⟨some ⟨w.heap.size, 0, none⟩, grownCap w l.length 0 e, by simp [nbL, ByteArray.size], ?_, fun _ => ⟨w.heap.size, 0, rfl, ?_, fun j hj => ?_⟩⟩
    · simp only [List.length_map, nbL_len]
      exact grownCap_ge w l.length 0 e
    · rw [Lib.bytesWorld_size]; omega
    · simp only [List.length_map, nbL_len] at hj
      have := Lib.bytesWorld_cell w e ⟨l.toArray⟩ j (by simpa [ByteArray.size] using hj)
      rw [Nat.zero_add, this]
      simp [ints, nbL, hj]
  · exact ⟨rfl, rfl, rfl, by rw [Lib.bytesWorld_size]; omega, fun k hk => Lib.bytesWorld_at_old w e _ k hk⟩
theorem LL.strBytes (l : Bs) (ho : o.op = .convert t u x) (hx : evM M x = some (strV l)) (hs : P.underlying t = some ud) (hd : P.underlying u = some (.slice e)) (he : P.underlying e = some (.int .u8)) (hdst : dstB n o.dst = true) (hg : wantB ops M o.guard = some true)
    (k : ∀ v w1 c, v = .slice (some ⟨w.heap.size, 0, none⟩) l.length c → Reads w1 v (ints .u8 (nbL l)) → Below w.heap.size w w1 → LL r P ops Q n D (putM M o.dst v) rest w1) : LL r P ops Q n D M (o :: rest) w := by
  obtain ⟨v, w1, h1, h2, h3, c, h4⟩ := conv_bytes (w := w) l hs hd he
  exact LL.val (R.conv ho hx h1) hdst (by rw [ho]; rfl) hg (k v w1 c h4 h2 h3)
theorem ZR.strBytes (l : Bs) (hi : ops[i]? = some o) (ho : o.op = .convert t u x) (hx : evM M x = some (strV l)) (hs : P.underlying t = some ud) (hd : P.underlying u = some (.slice e)) (he : P.underlying e = some (.int .u8)) (hdst : dstB n o.dst = true) (hg : wantB ops M o.guard = some true)
    (k : ∀ v w1 c, v = .slice (some ⟨w.heap.size, 0, none⟩) l.length c → Reads w1 v (ints .u8 (nbL l)) → Below w.heap.size w w1 → ok w1 ∧ K (putM M o.dst v) w1) : SR P ops ok i K n D M w := by
  obtain ⟨v, w1, h1, h2, h3, c, h4⟩ := conv_bytes (w := w) l hs hd he
  have h := k v w1 c h4 h2 h3
  exact SR.val hi (R.conv ho hx h1) hdst hg h.1 h.2
/-- A shift to the left that loses nothing. -/
theorem R.shlE {a : Nat} {b z : Nat} {k2 : IntKind} (ho : o.op = .binOp .shl t x y u) (hx : evM M x = some (.int .u64 (a : Int))) (hy : evM M y = some (.int k2 (b : Int))) (hb : b < 64) (hz : a * 2 ^ b = z) (hl : z < 18446744073709551616) : Runs P n D M o w (.value (.int .u64 (z : Int))) w := R.bin ho hx hy (by
  subst hz
  have h1 : ¬ ((b : Int) < 0) := by omega
  have h2 : Nat.min b 64 = b := Nat.min_eq_left (by omega)
  have h5 : ((a : Int) * (2 : Int) ^ b) = ((a * 2 ^ b : Nat) : Int) := by simp
  have h4 : IntKind.u64.wrap ((a : Int) * (2 : Int) ^ b) = (a : Int) * (2 : Int) ^ b := by
    rw [h5]
    obtain ⟨q, hq⟩ : ∃ q : Nat, a * 2 ^ b = q := ⟨_, rfl⟩
    rw [hq] at hl ⊢
    exact IntWalk.u64_in _ (by omega)
  simp [eqGuard, binOp, Op.shift, h1, IntKind.bits, h2, h4])
theorem R.mulUE {a b z : Nat} (ho : o.op = .binOp .mul t x y u) (hx : evM M x = some (.int .u64 (a : Int))) (hy : evM M y = some (.int .u64 (b : Int))) (hz : a * b = z) (hl : z < 18446744073709551616) : Runs P n D M o w (.value (.int .u64 (z : Int))) w := by
  subst hz
  exact R.mulUN ho hx hy hl
theorem R.addUE {a b z : Nat} (ho : o.op = .binOp .add t x y u) (hx : evM M x = some (.int .u64 (a : Int))) (hy : evM M y = some (.int .u64 (b : Int))) (hz : a + b = z) (hl : z < 18446744073709551616) : Runs P n D M o w (.value (.int .u64 (z : Int))) w := by
  subst hz
  exact R.addUN ho hx hy hl
theorem R.orE {a b z : Nat} (ho : o.op = .binOp .or t x y u) (hx : evM M x = some (.int .u64 (a : Int))) (hy : evM M y = some (.int .u64 (b : Int))) (ha : a < 18446744073709551616) (hb : b < 18446744073709551616) (hz : a ||| b = z) : Runs P n D M o w (.value (.int .u64 (z : Int))) w := by
  subst hz
  exact R.orU ho hx hy ha hb
theorem Reads.kept {w' : World} {K : Nat → Prop} {b off len cap : Nat} {xs : List Value} (h : Reads w (.slice (some ⟨b, off, none⟩) len cap) xs) (hk : Kept K w w') (hb : K b) : Reads w' (.slice (some ⟨b, off, none⟩) len cap) xs := by
  obtain ⟨a, c, e, hc, hr⟩ := h
  refine ⟨a, c, e, hc, fun hx => ?_⟩
  obtain ⟨b', off', ea, hbl, hcell⟩ := hr hx
  simp only [Value.slice.injEq] at e
  rw [← e.1] at ea
  simp only [Option.some.injEq, Addr.mk.injEq] at ea
  obtain ⟨rfl, rfl, _⟩ := ea
  refine ⟨b, off, by rw [← e.1], Nat.lt_of_lt_of_le hbl hk.size, fun j hj => ?_⟩
  rw [← hcell j hj]
  exact World.cell?_of_block (hk.block b hb)
/-- A slice of one's own, of elements of one cell: told so that it is carried. -/
def OwnW (w : World) (base e : Nat) (v : Value) (m : Nat) (xs : List Value) : Prop := w.ownsRow base e 1 v m xs
theorem OwnW.up {w' : World} {base e m : Nat} {v : Value} {xs : List Value} (h : OwnW w base e v m xs) (hb : Below w.heap.size w w') : OwnW w' base e v m xs := by
  refine ⟨h.1, ?_⟩
  rcases h.2 with h2 | ⟨g', cap, cur, rfl, hbg, hg, h3⟩
  · exact .inl h2
  · exact .inr ⟨g', cap, cur, rfl, hbg, (hb.block g' (Array.getElem?_eq_some_iff.1 hg).1).trans hg, h3⟩
theorem OwnW.low {base base' e m : Nat} {v : Value} {xs : List Value} (h : OwnW w base' e v m xs) (hb : base ≤ base') : OwnW w base e v m xs := by
  refine ⟨h.1, ?_⟩
  rcases h.2 with h2 | ⟨g', cap, cur, rfl, hbg, h3⟩
  · exact .inl h2
  · exact .inr ⟨g', cap, cur, rfl, by omega, h3⟩
theorem OwnW.reads {base e m : Nat} {v : Value} {xs : List Value} (h : OwnW w base e v m xs) : Reads w v xs := reads_of_owns h
variable {T : TypeId} {z : Value} {bytes : Nat}
/-- append(s, x...) onto a row that is known. -/
theorem LL.appendL {xs : Array Operand} {g : Nat} {vx : Value} {us ys : List Value} (ho : o.op = .call { callee := .builtin .append, args := xs, argTypes := #[T, T] }) (hx : evsM M xs.toList = some [.slice (some ⟨g, 0, none⟩) us.length us.length, vx]) (I : El P T e z bytes) (hrow : RowL w g e us) (hr : Reads w vx ys) (hone : ∀ u ∈ ys, u.oneCell' = true)
    (h63 : us.length + ys.length ≤ maxLen) (hb : (us.length + ys.length) * bytes ≤ 140737488355328) (hd : dstB n o.dst = true) (hg : wantB ops M o.guard = some true)
    (k : ∀ v' w1, OwnW w1 g e v' (us.length + ys.length) (us ++ ys) → w.grownBy w1 (some g) → LL r P ops Q n D (putM M o.dst v') rest w1) : LL r P ops Q n D M (o :: rest) w :=
  LL.append ho hx I (RowL.owns (base := g) hrow (Nat.le_refl _) (by omega)) hr hone h63 hb (Nat.le_of_lt hrow.lt) hd hg fun v' w1 o1 g1 => k v' w1 o1 g1
theorem ZR.appendL {xs : Array Operand} {g : Nat} {vx : Value} {us ys : List Value} (hi : ops[i]? = some o) (ho : o.op = .call { callee := .builtin .append, args := xs, argTypes := #[T, T] }) (hx : evsM M xs.toList = some [.slice (some ⟨g, 0, none⟩) us.length us.length, vx]) (I : El P T e z bytes) (hrow : RowL w g e us) (hr : Reads w vx ys) (hone : ∀ u ∈ ys, u.oneCell' = true)
    (h63 : us.length + ys.length ≤ maxLen) (hb : (us.length + ys.length) * bytes ≤ 140737488355328) (hd : dstB n o.dst = true) (hg : wantB ops M o.guard = some true)
    (k : ∀ v' w1, OwnW w1 g e v' (us.length + ys.length) (us ++ ys) → w.grownBy w1 (some g) → ok w1 ∧ K (putM M o.dst v') w1) : SR P ops ok i K n D M w :=
  ZR.append hi ho hx I (RowL.owns (base := g) hrow (Nat.le_refl _) (by omega)) hr hone h63 hb (Nat.le_of_lt hrow.lt) hd hg fun v' w1 o1 g1 => k v' w1 o1 g1
end
set_option linter.unusedVariables false
set_option linter.unusedSimpArgs false
section
variable {P : Program} {w : World} {T TI e : TypeId} {z : Value} {bytes : Nat} {kn : IntKind}
theorem RowL.asInts {g n : Nat} {xs : List Value} (h : RowL w g e xs) (k : IntKind) (ws : List Nat) (hx : xs = ints k ws) (hn : ws.length = n) : Reads w (.slice (some ⟨g, 0, none⟩) n n) (ints k ws) := by
  subst hx
  have := h.reads ws.length (by simp)
  rw [List.length_map, hn] at this
  exact this
variable {o : Oper} {n : Nat} {D : List Deferred} {M : Slots} {r : Option Nat} {ops : Array Oper} {Q : Exit → Act → World → Prop} {rest : List Oper}
end
set_option linter.unusedVariables false
set_option linter.unusedSimpArgs false
section
variable {P : Program} {ops : Array Oper} {ok : World → Prop} {n i : Nat} {D : List Deferred} {M : Slots} {w : World} {o : Oper} {K : Slots → World → Prop}
theorem SR.copy {xs : Array Operand} {dT sT e g off dl dc sl sc t : Nat} {p : Addr} {row cs : List Value} (hi : ops[i]? = some o) (ho : o.op = .call { callee := .builtin .copy, args := xs, argTypes := #[dT, sT] }) (hx : evsM M xs.toList = some [.slice (some ⟨g, off, none⟩) dl dc, .slice (some p) sl sc])
    (hz : slB P dT = some (e, 1)) (hr : RowL w g t row) (hcs : Cells w p cs) (hn : cs.length = Nat.min sl dl) (hfit : off + cs.length ≤ row.length) (h1 : ∀ v ∈ cs, v.oneCell' = true) (hd : dstB n o.dst = true) (hg : wantB ops M o.guard = some true)
    (k : ∀ w1, RowL w1 g t (row.take off ++ cs ++ row.drop (off + cs.length)) → w.grownBy w1 (some g) → w1.heap.size = w.heap.size → ok w1 ∧ K (putM M o.dst (.int .i64 (cs.length : Int))) w1) : SR P ops ok i K n D M w := by
  obtain ⟨hu, hz1⟩ := sl_of hz
  have hrun := run_copy_row (P := P) w dT sT o.type e g off dl dc p sl sc row.toArray t cs hu hz1 hr hn hcs (by simpa using hfit) h1
  have h := k _ (setRow_heap w g row.toArray _ t (0, 0) hr) (setRow_grown w g _) (by simp)
  refine SR.val (v := .int .i64 (cs.length : Int)) hi (R.builtin ho hx fun b => ?_) hd hg h.1 h.2
  unfold builtin
  simp only [Sem.run_bind, hrun, Result.andThen_ok, Sem.run_pure]
  rfl
end
theorem layL_len (l : Bs) : (layL (nbL l)).length = (l.length + 7) / 8 := by rw [layL_length, nbL_len]
/-- Words, in which others stand from a place on. -/
def putL (ws : List Nat) (i : Nat) (xs : List Nat) : List Nat := ws.take i ++ xs ++ ws.drop (i + xs.length)
theorem putL_len {ws xs : List Nat} {i n : Nat} (h : ws.length = n) (hi : i + xs.length ≤ n) : (putL ws i xs).length = n := by
  simp only [putL, List.length_append, List.length_take, List.length_drop]
  omega
/-- The words under way: where the next one goes, and what was laid. -/
structure OutW (w : World) (gv gw ga at_ : Nat) (ws : List Nat) : Prop where
  ra : RowL w ga 3 [.int .i64 (at_ : Int)]
  rv : RowL w gv 28 [.slice (some ⟨gw, 0, none⟩) 16 16]
  rw_ : RowL w gw 41 (ints .u64 ws)
  len : ws.length = 16
  ne : ga ≠ gv ∧ ga ≠ gw ∧ gv ≠ gw
theorem OutW.up {w w' : World} {gv gw ga at_ : Nat} {ws : List Nat} (h : OutW w gv gw ga at_ ws) (b : Below w.heap.size w w') : OutW w' gv gw ga at_ ws := ⟨h.ra.up b, h.rv.up b, h.rw_.up b, h.len, h.ne⟩
theorem OutW.gr {w w' : World} {gv gw ga at_ g : Nat} {ws : List Nat} (h : OutW w gv gw ga at_ ws) (b : w.grownBy w' (some g)) (hne : g ≠ gv ∧ g ≠ gw ∧ g ≠ ga) : OutW w' gv gw ga at_ ws := ⟨h.ra.gr b (by omega), h.rv.gr b (by omega), h.rw_.gr b (by omega), h.len, h.ne⟩
theorem OutW.lts {w : World} {gv gw ga at_ : Nat} {ws : List Nat} (h : OutW w gv gw ga at_ ws) : gv < w.heap.size ∧ gw < w.heap.size ∧ ga < w.heap.size := ⟨h.rv.lt, h.rw_.lt, h.ra.lt⟩
abbrev KO (w : World) (gw ga : Nat) (i : Nat) : Prop := i < w.heap.size ∧ i ≠ gw ∧ i ≠ ga
theorem ko_tr {w w1 w2 : World} {gw ga : Nat} (h : Kept (KO w gw ga) w w1) (h2 : Kept (KO w1 gw ga) w1 w2) : Kept (KO w gw ga) w w2 :=
  h.trans (h2.less fun j hj => ⟨by have := hj.1; have := h.size; omega, hj.2⟩)
abbrev fillV (ga gv : Nat) : Value := .func (.func 30) #[] #[.pointer (some ⟨ga, 0, none⟩), .pointer (some ⟨gv, 0, none⟩)]
theorem fill_any (gv gw ga at_ sl sc : Nat) (p : Addr) (ws xs : List Nat) (w : World) (O : OutW w gv gw ga at_ ws) (hxF : ∀ X, Kept (KO w gw ga) w X → Cells X p (ints .u64 xs)) (hsl : xs.length = sl) (hfit : at_ + sl ≤ 16) (h1 : 1 ≤ sl) (hsc : sl ≤ sc) : Calls Tryd.prog 30 #[.slice (some p) sl sc, .pointer (some ⟨ga, 0, none⟩), .pointer (some ⟨gv, 0, none⟩)] w fun e w' => e = .returned (.tuple #[]) ∧ OutW w' gv gw ga (at_ + sl) (putL ws at_ xs) ∧ Kept (KO w gw ga) w w' := by
  have lO := O.lts
  obtain ⟨ra, rv, rw_, len, ne1, ne2, ne3⟩ := O
  have hkk := Kept.refl (KO w gw ga) w
  have hil : (ints .u64 xs).length = sl := by simp [ints, hsl]
  have hwl : (ints .u64 ws).length = 16 := by simp [ints, len]
  refine X.fn Tryd.func30 rfl (n := 11) rfl rfl ?_
  refine CC.join (fun l_ W34 => l_ = [] ∧ (RowL W34 gw 41 (ints IntKind.u64 (putL ws at_ xs))) ∧ (RowL W34 gv 28 [Value.slice (some { block := gw, off := 0 }) 16 16]) ∧ (Kept (KO w gw ga) w W34) ∧ (RowL W34 ga 3 [Value.int IntKind.i64 ↑(at_ + (ints IntKind.u64 xs).length)]) ∧ (w.heap.size ≤ W34.heap.size)) (fun J38 => ?_) ?restJ38
  case' restJ38 =>
    clear rv
    clear hkk
    clear ra
    rintro _ W34 ⟨rfl, r9, rv, hkk, ra, z37⟩
  refine EE.end _ rfl rfl ?_
  exact ⟨rfl, ⟨(by rw [hil] at *; assumption), by assumption, by assumption, putL_len len (by omega), ne1, ne2, ne3⟩, hkk⟩
  refine CC.freeZ (fun W_ j => j < W_.heap.size ∧ (j ≠ gw ∧ j ≠ ga)) (by kernel_rfl) (by kernel_rfl) (fun W40 b39 z41 => ?_)
  replace ra := ra.up b39; replace rv := rv.up b39; replace rw_ := rw_.up b39; replace hkk := Zh hkk b39; have y42 := hkk.size
  have hok : Kept (fun j => j < W40.heap.size ∧ (j ≠ gw ∧ j ≠ ga)) W40 W40 := Kept.refl _ _
  have fzrv := fzRow (K := fun j => j < W40.heap.size ∧ (j ≠ gw ∧ j ≠ ga)) rv ⟨rv.lt, (by first | trivial | omega)⟩
  refine AA.pure 1 rfl hok (by kernel_rfl) (fun w' b' => R.load rfl rfl (I.ld1 rfl (RowL.cell (fzrv w' b') rfl))) rfl rfl ?_
  refine AA.pure 4 rfl hok (by kernel_rfl) (fun w' b' => R.move rfl rfl) rfl rfl ?_
  refine AA.two 0 2 (by kernel_rfl) ?_ ?_
  refine SR.val rfl (R.load rfl rfl (I.ld1 rfl (RowL.cell ra rfl))) rfl rfl hok ?_
  refine AA.one 2 (by kernel_rfl) ?_
  refine SR.val rfl (R.load rfl rfl (I.ld1 rfl (RowL.cell ra rfl))) rfl rfl hok ?_
  refine AA.pure 3 rfl hok (by kernel_rfl) (fun w' b' => R.slice rfl rfl rfl rfl rfl (I.slFrom rfl (by omega) (by omega) (by omega))) rfl rfl ?_
  refine AA.one 5 (by kernel_rfl) ?_
  (refine SR.copy rfl rfl rfl rfl (by assumption) (hxF _ hkk) (by rw [hil]; exact (Nat.min_eq_left (a := sl) (b := 16 - at_) (by omega)).symm) (by rw [hil, hwl]; show 0 + at_ * 1 + sl ≤ 16; omega) (fun v hv => by simp only [ints, List.mem_map] at hv; obtain ⟨y, _, rfl⟩ := hv; rfl) rfl rfl ?_; intro W60 r9 gr58 zz63; replace r9 : RowL W60 gw 41 (ints .u64 (putL ws at_ xs)) := by have h9 : RowL W60 gw 41 ((ints .u64 ws).take (0 + at_ * 1) ++ ints .u64 xs ++ (ints .u64 ws).drop (0 + at_ * 1 + (ints .u64 xs).length)) := r9; (rw [show 0 + at_ * 1 = at_ by omega, show (ints .u64 xs).length = xs.length by simp [ints]] at h9); simp only [putL, ints, List.map_append, List.map_take, List.map_drop]; exact h9)
  have zgr58 := gr58.size; replace ra := Zd ra gr58; replace rv := Zd rv gr58; replace hkk := Zo hkk gr58; replace hok := Zo hok gr58
  refine ⟨hok, ?_⟩
  refine AA.pure 6 rfl hok (by kernel_rfl) (fun w' b' => R.addN rfl rfl rfl (by omega)) rfl rfl ?_
  refine AA.one 7 (by kernel_rfl) ?_
  refine ZR.store rfl rfl rfl rfl rfl ra (by exact Nat.le_of_ble_eq_true rfl) rfl rfl rfl rfl ?_
  intro W72 r73 b71 z74
  have hlb71 := ra.lt
  replace r73 : RowL W72 _ 3 [.int .i64 ↑(at_ + (ints .u64 xs).length)] := r73
  clear ra
  replace r9 := Zd r9 b71; replace rv := Zd rv b71; replace hkk := Zo hkk b71; replace hok := Zo hok b71
  have ra := r73
  clear r73
  refine ⟨hok, ?_⟩
  refine AA.done rfl ?_
  clear fzrv hok
  refine EE.end _ rfl rfl ?_
  exact ⟨rfl, ⟨(by rw [hil] at *; assumption), by assumption, by assumption, putL_len len (by omega), ne1, ne2, ne3⟩, hkk⟩
  refine SR.val rfl (R.load rfl rfl (I.ld1 rfl (RowL.cell ra rfl))) rfl rfl hok ?_
  refine AA.pure 3 rfl hok (by kernel_rfl) (fun w' b' => R.slice rfl rfl rfl rfl rfl (I.slFrom rfl (by omega) (by omega) (by omega))) rfl rfl ?_
  refine AA.two 0 5 (by kernel_rfl) ?_ ?_
  refine SR.val rfl (R.load rfl rfl (I.ld1 rfl (RowL.cell ra rfl))) rfl rfl hok ?_
  refine AA.one 5 (by kernel_rfl) ?_
  (refine SR.copy rfl rfl rfl rfl (by assumption) (hxF _ hkk) (by rw [hil]; exact (Nat.min_eq_left (a := sl) (b := 16 - at_) (by omega)).symm) (by rw [hil, hwl]; show 0 + at_ * 1 + sl ≤ 16; omega) (fun v hv => by simp only [ints, List.mem_map] at hv; obtain ⟨y, _, rfl⟩ := hv; rfl) rfl rfl ?_; intro W92 r9 gr90 zz95; replace r9 : RowL W92 gw 41 (ints .u64 (putL ws at_ xs)) := by have h9 : RowL W92 gw 41 ((ints .u64 ws).take (0 + at_ * 1) ++ ints .u64 xs ++ (ints .u64 ws).drop (0 + at_ * 1 + (ints .u64 xs).length)) := r9; (rw [show 0 + at_ * 1 = at_ by omega, show (ints .u64 xs).length = xs.length by simp [ints]] at h9); simp only [putL, ints, List.map_append, List.map_take, List.map_drop]; exact h9)
  have zgr90 := gr90.size; replace ra := Zd ra gr90; replace rv := Zd rv gr90; replace hkk := Zo hkk gr90; replace hok := Zo hok gr90
  refine ⟨hok, ?_⟩
  refine AA.pure 6 rfl hok (by kernel_rfl) (fun w' b' => R.addN rfl rfl rfl (by omega)) rfl rfl ?_
  refine AA.one 7 (by kernel_rfl) ?_
  refine ZR.store rfl rfl rfl rfl rfl ra (by exact Nat.le_of_ble_eq_true rfl) rfl rfl rfl rfl ?_
  intro W104 r105 b103 z106
  have hlb103 := ra.lt
  replace r105 : RowL W104 _ 3 [.int .i64 ↑(at_ + (ints .u64 xs).length)] := r105
  clear ra
  replace r9 := Zd r9 b103; replace rv := Zd rv b103; replace hkk := Zo hkk b103; replace hok := Zo hok b103
  have ra := r105
  clear r105
  refine ⟨hok, ?_⟩
  refine AA.done rfl ?_
  clear fzrv hok
  refine EE.end _ rfl rfl ?_
  exact ⟨rfl, ⟨(by rw [hil] at *; assumption), by assumption, by assumption, putL_len len (by omega), ne1, ne2, ne3⟩, hkk⟩
  (refine SR.copy rfl rfl rfl rfl (by assumption) (hxF _ hkk) (by rw [hil]; exact (Nat.min_eq_left (a := sl) (b := 16 - at_) (by omega)).symm) (by rw [hil, hwl]; show 0 + at_ * 1 + sl ≤ 16; omega) (fun v hv => by simp only [ints, List.mem_map] at hv; obtain ⟨y, _, rfl⟩ := hv; rfl) rfl rfl ?_; intro W110 r9 gr108 zz113; replace r9 : RowL W110 gw 41 (ints .u64 (putL ws at_ xs)) := by have h9 : RowL W110 gw 41 ((ints .u64 ws).take (0 + at_ * 1) ++ ints .u64 xs ++ (ints .u64 ws).drop (0 + at_ * 1 + (ints .u64 xs).length)) := r9; (rw [show 0 + at_ * 1 = at_ by omega, show (ints .u64 xs).length = xs.length by simp [ints]] at h9); simp only [putL, ints, List.map_append, List.map_take, List.map_drop]; exact h9)
  have zgr108 := gr108.size; replace ra := Zd ra gr108; replace rv := Zd rv gr108; replace hkk := Zo hkk gr108; replace hok := Zo hok gr108
  refine ⟨hok, ?_⟩
  refine AA.one 0 (by kernel_rfl) ?_
  refine SR.val rfl (R.load rfl rfl (I.ld1 rfl (RowL.cell ra rfl))) rfl rfl hok ?_
  refine AA.pure 6 rfl hok (by kernel_rfl) (fun w' b' => R.addN rfl rfl rfl (by omega)) rfl rfl ?_
  refine AA.one 7 (by kernel_rfl) ?_
  refine ZR.store rfl rfl rfl rfl rfl ra (by exact Nat.le_of_ble_eq_true rfl) rfl rfl rfl rfl ?_
  intro W129 r130 b128 z131
  have hlb128 := ra.lt
  replace r130 : RowL W129 _ 3 [.int .i64 ↑(at_ + (ints .u64 xs).length)] := r130
  clear ra
  replace r9 := Zd r9 b128; replace rv := Zd rv b128; replace hkk := Zo hkk b128; replace hok := Zo hok b128
  have ra := r130
  clear r130
  refine ⟨hok, ?_⟩
  refine AA.done rfl ?_
  clear fzrv hok
  refine EE.end _ rfl rfl ?_
  exact ⟨rfl, ⟨(by rw [hil] at *; assumption), by assumption, by assumption, putL_len len (by omega), ne1, ne2, ne3⟩, hkk⟩
theorem row_src {w : World} {g e gw ga : Nat} {xs : List Nat} (r : RowL w g e (ints .u64 xs)) (h1 : g ≠ gw) (h2 : g ≠ ga) : ∀ X, Kept (KO w gw ga) w X → Cells X ⟨g, 0, none⟩ (ints .u64 xs) := fun X h => (r.kept h ⟨r.lt, h1, h2⟩).cells0
theorem Start.kept {w w' : World} {K : Nat → Prop} (h : Start w) (k : Kept K w w') (hK : K 0) : Start w' := by
  have e := k.block 0 hK
  have key : ∀ {p : Addr} {v : Value}, p.block = 0 → w.cell? p = some v → w'.cell? p = some v := fun {p v} hp hc => (World.cell?_of_block (by rw [hp]; exact e)).trans hc
  exact ⟨key rfl h.c0, key rfl h.c1, key rfl h.c2, Nat.lt_of_lt_of_le h.pos k.size⟩
/-- The words of a map. -/
def wrdN (m : List Ex) : List Nat := (wrdZ m).map Int.toNat
theorem wrdN_ints {m : List Ex} (h : ∀ x ∈ m, mayE x) : intsZ .u64 (wrdZ m) = ints .u64 (wrdN m) := by
  unfold intsZ ints wrdN
  rw [List.map_map]
  refine List.map_congr_left fun z hz => ?_
  obtain ⟨i, hi⟩ := List.mem_iff_getElem?.1 hz
  have := (wrdZ_bnd h i z hi).1
  simp only [Function.comp_apply]
  rw [Int.toNat_of_nonneg this]
theorem wrdN_len {m : List Ex} (h : vL m) : (wrdN m).length = 10 := by unfold wrdN; rw [List.length_map, wrdZ_len h.1]
/-- What a file, a directory, a link lays. -/
def layF (ws : List Nat) (z : Nat) (m : List Ex) : List Nat := putL (putL ws 1 [z]) 2 (wrdN m)
def layD (ws : List Nat) (r p : Nat) : List Nat := putL ws 1 [0, r, p]
def layK (ws : List Nat) (t : Bs) : List Nat := putL (putL ws 1 [t.length]) 2 (layL (nbL t))
def laidP (gv gw ga : Nat) (ws : List Nat) (w0 : World) (e : Ending) (w : World) : Prop := e = .returned (.tuple #[]) ∧ (∃ at_, OutW w gv gw ga at_ ws) ∧ Kept (KO w0 gw ga) w0 w
theorem ly0_any (k l z : Int) (a : Value) (r p : Int) (t : Bs) (gv gw ga at_ : Nat) (ws : List Nat) (w : World) (ha : ∃ x n c, a = .slice x n c) (O : OutW w gv gw ga at_ ws) : Calls Tryd.prog 59 #[inV k l z a r p t, fillV ga gv] w (laidP gv gw ga ws w) := by
  unfold laidP
  have hkk := Kept.refl (KO w gw ga) w
  have lO := O.lts
  obtain ⟨xa, na, ca, rfl⟩ := ha
  refine X.fn Tryd.func59 rfl (n := 4) rfl rfl ?_
  refine CC.region ?_
  refine LL.box [.int .i64 k, .int .i64 l, .int .i64 z, .slice xa na ca, .int .i64 r, .int .i64 p, strV t] rfl rfl rfl rfl rfl ?_
  intro W2 g3 eg3 r4 z5 b1
  replace O := O.up b1; replace hkk := Zh hkk b1; have y6 := hkk.size; refine ZL ?_; refine EE.end _ rfl rfl ?_
  exact ⟨rfl, ⟨_, O⟩, hkk⟩
theorem ly2_any (k l z : Int) (a : Value) (r p : Nat) (t : Bs) (gv gw ga : Nat) (ws : List Nat) (w : World) (ha : ∃ x n c, a = .slice x n c) (hr : r ≤ 2047) (hp : p ≤ 256) (O : OutW w gv gw ga 1 ws) : Calls Tryd.prog 67 #[inV k l z a (r : Int) (p : Int) t, fillV ga gv] w (laidP gv gw ga (layD ws r p) w) := by
  unfold laidP
  have hkk := Kept.refl (KO w gw ga) w
  have lO := O.lts
  have ne := O.ne
  obtain ⟨xa, na, ca, rfl⟩ := ha
  refine X.fn Tryd.func67 rfl (n := 15) rfl rfl ?_
  refine Zr ?_
  refine LL.box [.int .i64 k, .int .i64 l, .int .i64 z, .slice xa na ca, .int .i64 ↑r, .int .i64 ↑p, strV t] rfl rfl rfl rfl rfl ?_
  intro W9 g10 eg10 r11 z12 b8
  replace O := O.up b8; replace hkk := Zh hkk b8; have y13 := hkk.size; refine Zq ?_; refine CC.region ?_; refine Zm ?_; refine Zf ?_; refine Zf ?_; refine Zl r11 ?_
  refine LL.val (R.convI rfl rfl rfl rfl (wrapU (by omega) (by omega))) rfl rfl rfl ?_
  refine Zf ?_; refine Zf ?_; refine Zl r11 ?_
  refine LL.val (R.convI rfl rfl rfl rfl (wrapU (by omega) (by omega))) rfl rfl rfl ?_
  have l84 := r11.lt
  refine LL.lit (e := 41) [Value.int IntKind.u64 0, Value.int IntKind.u64 ↑r, Value.int IntKind.u64 ↑p] 3 rfl rfl (fun _ => by kernel_rfl) rfl rfl ?_
  intro W86 g87 eg87 r88 z89 b85
  replace r11 := r11.up b85; replace b8 := Zu b8 b85; replace O := O.up b85; replace hkk := Zh hkk b85; have y90 := hkk.size
  (refine LL.call (R.callV rfl rfl rfl rfl) rfl rfl rfl (fill_any gv gw ga 1 3 3 ⟨_, 0, none⟩ ws [0, r, p] _ O (row_src (xs := [0, r, p]) (by assumption) (by omega) (by omega)) rfl (by omega) (by omega) (by omega)) ?_; rintro e W94 ⟨rfl, O2, t93⟩; refine ⟨_, rfl, ?_⟩; replace hkk := ko_tr hkk t93; clear O; have O := O2; clear O2)
  have zt93 := t93.size
  replace r88 := r88.kept t93 ⟨r88.lt, by omega⟩
  replace r11 := r11.kept t93 ⟨r11.lt, by omega⟩
  refine ZL ?_; refine EE.end _ rfl rfl ?_
  exact ⟨rfl, ⟨_, O⟩, hkk⟩
theorem ly1_any (k l : Int) (z : Nat) (x : Option Addr) (n c : Nat) (r p : Int) (t : Bs) (m : List Ex) (gv gw ga : Nat) (ws : List Nat) (w : World) (hS : Start w) (hg0 : 0 < gw ∧ 0 < ga) (hv : ReadsT eE 3 w (.slice x n c) m) (hm : vL m) (hz : z ≤ 65536) (O : OutW w gv gw ga 1 ws) : Calls Tryd.prog 63 #[inV k l (z : Int) (.slice x n c) r p t, fillV ga gv] w (laidP gv gw ga (layF ws z m) w) := by
  unfold laidP
  have hkk := Kept.refl (KO w gw ga) w
  have lO := O.lts
  have ne := O.ne
  have hvF : ∀ X, Below w.heap.size w X → ReadsT eE 3 X (.slice x n c) m := fun X b => hv.up b
  have hSF : ∀ X, Below w.heap.size w X → Start X := fun X b => hS.up b
  have q := Below.refl w.heap.size w
  have e1 := wrdN_ints hm.2.1
  have l1 := wrdN_len hm
  have hw := fun (X : World) (b : Below w.heap.size w X) => words_T m (.slice x n c) X (hSF X b) (hvF X b) hm
  have l2 : (wrdZ m).length = 10 := wrdZ_len hm.1
  clear hv hS
  refine X.fn Tryd.func63 rfl (n := 26) rfl rfl ?_
  refine Zr ?_
  refine LL.box [.int .i64 k, .int .i64 l, .int .i64 ↑z, .slice x n c, .int .i64 r, .int .i64 p, strV t] rfl rfl rfl rfl rfl ?_
  intro W23 g24 eg24 r25 z26 b22
  replace O := O.up b22; replace hkk := Zh hkk b22; have y27 := hkk.size; replace q := Zu q b22; refine Zq ?_; refine Zr ?_; refine Zf ?_; refine Zf ?_; refine Zl r25 ?_; have l98 := r25.lt
  (refine Zy (R.call rfl rfl rfl) (hw _ q) ?_; rintro e W97 ⟨rfl, b94⟩; refine ⟨_, rfl, ?_⟩)
  have zb94 := b94.size; replace r25 := r25.up b94; replace b22 := Zu b22 b94; replace O := O.up b94; replace hkk := Zh hkk b94; have y102 := hkk.size; replace q := Zu q b94; refine Zm ?_; refine Zx ?_; refine Zx ?_; have l191 := r25.lt
  refine LL.alloc (intsZ .u64 (List.replicate 10 0)) rfl rfl rfl rfl rfl ?_
  intro W193 g194 eg194 r195 z196 b192
  replace b94 := Zu b94 b192; replace r25 := r25.up b192; replace b22 := Zu b22 b192; replace O := O.up b192; replace hkk := Zh hkk b192; have y197 := hkk.size; replace q := Zu q b192
  refine LL.storeAZ rfl rfl rfl rfl (by first | assumption | exact List.length_replicate | exact plL_len _ | exact plOf_len _ | simp) r195 (by first | (rw [List.length_map]; exact (by first | assumption | exact List.length_replicate | exact plL_len _ | exact plOf_len _ | simp)) | simp) rfl rfl ?_
  intro W222 r223 b221 z224
  have hlb221 := r195.lt
  clear r195
  replace b192 := Zg b192 b221; replace b94 := Zg b94 b221; replace r25 := Zd r25 b221; replace b22 := Zg b22 b221
  replace O := O.gr b221 (by omega)
  replace hkk := Zo hkk b221; replace q := Zg q b221
  have r195 := r223
  clear r223
  refine Za ?_; refine Zq ?_; refine Zr ?_; refine Zm ?_; refine ZneF ?_
  refine Zy (R.call rfl rfl rfl) (refuse_F _) ?_
  rintro e W' ⟨rfl, rfl⟩
  refine ⟨_, rfl, ?_⟩; refine Zq ?_; refine Zr ?_; refine Zm ?_; refine Zf ?_; refine Zf ?_; refine Zl r25 ?_
  refine LL.val (R.convI rfl rfl rfl rfl (wrapU (by omega) (by omega))) rfl rfl rfl ?_
  have l455 := r25.lt; have l456 := r195.lt
  refine LL.lit (e := 41) [Value.int IntKind.u64 ↑z] 1 rfl rfl (fun _ => by kernel_rfl) rfl rfl ?_
  intro W458 g459 eg459 r460 z461 b457
  replace b192 := Zu b192 b457; replace b94 := Zu b94 b457; replace r25 := r25.up b457; replace b22 := Zu b22 b457; replace O := O.up b457; replace hkk := Zh hkk b457; have y462 := hkk.size; replace q := Zu q b457; replace r195 := r195.up b457
  (refine LL.call (R.callV rfl rfl rfl rfl) rfl rfl rfl (fill_any gv gw ga 1 1 1 ⟨_, 0, none⟩ ws [z] _ O (row_src (xs := [z]) (by assumption) (by omega) (by omega)) rfl (by omega) (by omega) (by omega)) ?_; rintro e W476 ⟨rfl, O2, t475⟩; refine ⟨_, rfl, ?_⟩; replace hkk := ko_tr hkk t475; clear O q; have O := O2; clear O2)
  have zt475 := t475.size
  replace r460 := r460.kept t475 ⟨r460.lt, by omega⟩
  replace r25 := r25.kept t475 ⟨r25.lt, by omega⟩
  replace r195 := r195.kept t475 ⟨r195.lt, by omega⟩
  refine Zq ?_; refine CC.region ?_; refine Zm ?_
  refine LL.val (R.slice rfl rfl rfl rfl rfl (I.slA rfl)) rfl rfl rfl ?_
  (refine LL.call (R.callV rfl rfl rfl rfl) rfl rfl rfl (fill_any gv gw ga 2 10 10 ⟨_, 0, none⟩ (putL ws 1 [z]) (wrdN m) _ O (row_src (xs := wrdN m) (by rw [← e1]; assumption) (by omega) (by omega)) l1 (by omega) (by omega) (by omega)) ?_; rintro e W548 ⟨rfl, O2, t547⟩; refine ⟨_, rfl, ?_⟩; replace hkk := ko_tr hkk t547; clear O; have O := O2; clear O2)
  have zt547 := t547.size
  replace r460 := r460.kept t547 ⟨r460.lt, by omega⟩
  replace r25 := r25.kept t547 ⟨r25.lt, by omega⟩
  replace r195 := r195.kept t547 ⟨r195.lt, by omega⟩
  refine ZL ?_; refine EE.end _ rfl rfl ?_
  exact ⟨rfl, ⟨_, O⟩, hkk⟩
theorem ly3_any (k l z : Int) (a : Value) (r p : Int) (t : Bs) (gv gw ga : Nat) (ws : List Nat) (w : World) (ha : ∃ x n c, a = .slice x n c) (ht : 1 ≤ t.length ∧ t.length ≤ 112) (O : OutW w gv gw ga 1 ws) : Calls Tryd.prog 73 #[inV k l z a r p t, fillV ga gv] w (laidP gv gw ga (layK ws t) w) := by
  unfold laidP
  have hkk := Kept.refl (KO w gw ga) w
  have lO := O.lts
  have ne := O.ne
  have l1 := layL_len t
  obtain ⟨xa, na, ca, rfl⟩ := ha
  refine X.fn Tryd.func73 rfl (n := 19) rfl rfl ?_
  refine Zr ?_
  refine LL.box [.int .i64 k, .int .i64 l, .int .i64 z, .slice xa na ca, .int .i64 r, .int .i64 p, strV t] rfl rfl rfl rfl rfl ?_
  intro W23 g24 eg24 r25 z26 b22
  replace O := O.up b22; replace hkk := Zh hkk b22; have y27 := hkk.size; refine Zq ?_; refine Zr ?_; refine Zm ?_; refine Zf ?_; refine Zf ?_; refine Zl r25 ?_
  refine LL.val (R.lenS rfl rfl rfl rfl) rfl rfl rfl ?_
  refine LL.val (R.convI rfl rfl rfl rfl (wrapU (by omega) (by omega))) rfl rfl rfl ?_
  have l182 := r25.lt
  refine LL.lit (e := 41) [Value.int IntKind.u64 ↑(List.length t)] 1 rfl rfl (fun _ => by kernel_rfl) rfl rfl ?_
  intro W184 g185 eg185 r186 z187 b183
  replace r25 := r25.up b183; replace b22 := Zu b22 b183; replace O := O.up b183; replace hkk := Zh hkk b183; have y188 := hkk.size
  (refine LL.call (R.callV rfl rfl rfl rfl) rfl rfl rfl (fill_any gv gw ga 1 1 1 ⟨_, 0, none⟩ ws [t.length] _ O (row_src (xs := [t.length]) (by assumption) (by omega) (by omega)) rfl (by omega) (by omega) (by omega)) ?_; rintro e W201 ⟨rfl, O2, t200⟩; refine ⟨_, rfl, ?_⟩; replace hkk := ko_tr hkk t200; clear O; have O := O2; clear O2; have lO2 := O.lts)
  have zt200 := t200.size
  replace r186 := r186.kept t200 ⟨r186.lt, by omega⟩
  replace r25 := r25.kept t200 ⟨r25.lt, by omega⟩
  refine Zq ?_; refine CC.region ?_; refine Zm ?_; refine Zf ?_; refine Zf ?_; refine Zl r25 ?_; have l320 := r186.lt; have l321 := r25.lt
  refine LL.strBytes (t) rfl rfl Go.Proofs.Tryd.underlying9 Go.Proofs.Tryd.underlying77 Go.Proofs.Tryd.underlying5 rfl rfl ?_
  intro v324 W323 k325 ev324 r326 b322
  replace hkk := Zh hkk b322; have y327 := hkk.size; replace O := O.up b322; replace r186 := r186.up b322; replace r25 := r25.up b322; have l332 := r186.lt; have l333 := r25.lt
  (refine Zy (R.call rfl rfl rfl) (lay_any _ (nbL t) ((t.length + 7) / 8) _ (by assumption) (nbL_lt t) (by rw [nbL_len]; omega) (by rw [nbL_len])) ?_; rintro e W331 ⟨g8, rfl, lg8, r8, b328⟩; refine ⟨_, rfl, ?_⟩)
  have zb328 := b328.size; replace r326 := r326.up b328; replace b322 := Zu b322 b328; replace hkk := Zh hkk b328; have y337 := hkk.size; replace O := O.up b328; replace r186 := r186.up b328; replace r25 := r25.up b328
  (refine LL.call (R.callV rfl rfl rfl rfl) rfl rfl rfl (fill_any gv gw ga 2 ((t.length + 7) / 8) ((t.length + 7) / 8) ⟨_, 0, none⟩ (putL ws 1 [t.length]) (layL (nbL t)) _ O (row_src r8 (by omega) (by omega)) l1 (by omega) (by omega) (by omega)) ?_; rintro e W358 ⟨rfl, O2, t357⟩; refine ⟨_, rfl, ?_⟩; replace hkk := ko_tr hkk t357; clear O; have O := O2; clear O2)
  have zt357 := t357.size
  replace r8 := r8.kept t357 ⟨r8.lt, by omega⟩
  replace r186 := r186.kept t357 ⟨r186.lt, by omega⟩
  replace r25 := r25.kept t357 ⟨r25.lt, by omega⟩
  refine ZL ?_; refine EE.end _ rfl rfl ?_
  exact ⟨rfl, ⟨_, O⟩, hkk⟩
theorem ofo_T (ws : List Int) (w : World) (hs : Start w) (hl : ws.length = 10) (hw : ∀ (i : Nat) (z : Int), ws[i]? = some z → 0 ≤ z ∧ z < 18446744073709551616) (hm : mapW ws) : Calls Tryd.prog 82 #[wdV ws] w fun e w' => ∃ v, e = .returned (.tuple #[v, .int .i64 0]) ∧ OwnsT eE 3 w' w.heap.size 98 v (outZ ws) ∧ Below w.heap.size w w' := by
  have q := Below.refl w.heap.size w
  have hp := hs.pos
  have hsF : ∀ W, Below w.heap.size w W → Start W := fun W hb => hs.up hb
  clear hs
  refine X.fn Tryd.func82 rfl (n := 34) rfl rfl ?_
  refine Zr ?_; refine LL.box _ rfl rfl rfl rfl rfl ?_
  intro W2 g3 eg3 r4 z5 b1
  replace q := Zu q b1; refine Za ?_; refine Za ?_; refine Zq ?_; refine Zr ?_; refine Za ?_; refine Zq ?_; refine Zc ?_; refine Zr ?_
  refine LL.val (R.loadZ rfl rfl r4 rfl rfl (by first | assumption | exact List.length_replicate | exact plL_len _ | exact plOf_len _ | simp)) rfl rfl rfl ?_
  refine Zm ?_; refine Zq ?_; refine CC.block ?_; have yw := q.size; have l3 := r4.lt
  have hB : ∃ B, W2.heap.size = B := ⟨_, rfl⟩
  obtain ⟨B, hB⟩ := hB
  rw [hB] at l3 yw
  refine CC.loop (α := Nat × Value) (fun s => [(1, .pointer (some ⟨g3, 0, none⟩)), (4, s.2), (9, wdV ws), (10, .int .i64 (s.1 : Int))]) (fun s W => s.1 ≤ 10 ∧ Below w.heap.size w W ∧ B ≤ W.heap.size ∧ RowL W g3 74 (intsZ .u64 ws) ∧ OwnsT eE 3 W B 98 s.2 (outZ (ws.take s.1))) (fun s => 10 - s.1) (0, .slice none 0 0) ⟨rfl, rfl, rfl, rfl, trivial⟩ ⟨by show 0 ≤ 10; omega, q, by omega, r4, OwnsT.none _ _ _⟩ ?_
  clear q r4
  rintro ⟨i, v⟩ W ⟨hi, q, yB, r4, o⟩
  simp only at hi o
  show CC none Tryd.prog _ 34 [] (sl [(1, .pointer (some ⟨g3, 0, none⟩)), (4, v), (9, wdV ws), (10, .int .i64 (i : Int))]) _ W
  have yq := q.size
  by_cases hlt : i < 10
  case pos =>
    obtain ⟨z, hz⟩ : ∃ z, ws[i]? = some z := ⟨_, List.getElem?_eq_getElem (by omega)⟩
    have hzb := hw i z hz
    obtain ⟨x, rfl⟩ : ∃ x : Nat, z = (x : Int) := ⟨z.toNat, by omega⟩
    have hst := outZ_succ hz
    have hol := outZ_len (ws.take i)
    rw [List.length_take] at hol
    by_cases h0 : x = 0
    · rw [if_pos (by omega), List.append_nil] at hst
      refine Zr ?_; refine ZltT ?_; refine Zq ?_; refine Zc ?_; refine ZY ?_; refine ZK ?_; refine ZT ?_; refine Zc ?_; refine CC.block ?_; refine Zr ?_
      refine LL.val (R.ixZ rfl rfl rfl rfl (by assumption) (by assumption)) rfl rfl rfl ?_
      refine Za ?_; refine Zq ?_; refine Zr ?_; refine Zm ?_; refine ZneF ?_; refine Zq ?_; refine ZN ?_; refine ZK ?_; refine EE.inN ?_; refine ZT ?_; refine CC.region ?_
      refine LL.val (R.addNc rfl rfl rfl rfl (by omega)) rfl rfl rfl ?_
      refine Zm ?_; refine ZL ?_
      exact EE.round (i + 1, v) ⟨rfl, rfl, rfl, rfl, trivial⟩ ⟨by show i + 1 ≤ 10; omega, q, yB, r4, by show OwnsT eE 3 _ _ _ v (outZ (ws.take (i + 1))); rw [hst]; exact o⟩ (by show 10 - (i + 1) < 10 - i; omega)
    rw [if_neg (by omega)] at hst
    have hs := hsF W q
    have hxb : x < 18446744073709551616 := by omega
    rw [Int.toNat_natCast] at hst
    refine Zr ?_; refine ZltT ?_; refine Zq ?_; refine Zc ?_; refine ZY ?_; refine ZK ?_; refine ZT ?_; refine Zc ?_; refine CC.block ?_; refine Zr ?_
    refine LL.val (R.ixZ rfl rfl rfl rfl (by assumption) (by assumption)) rfl rfl rfl ?_
    refine Za ?_; refine Zq ?_; refine Zr ?_; refine Zm ?_; refine ZneT ?_; refine Zq ?_; refine ZY ?_; refine CC.region ?_; refine Zm ?_; refine Zm ?_
    refine Zy (R.call rfl rfl rfl) (unpack_any _ _ (by first | assumption | omega) (by first | assumption | omega)) ?_
    rintro e Wb2 ⟨rfl, bb1⟩
    refine ⟨_, rfl, ?_⟩; have zbb1 := bb1.size; replace q := Zu q bb1; replace r4 := r4.up bb1; replace o := o.up bb1; replace hs := hs.up bb1; have lb4 := r4.lt
    refine LL.lit (e := 98) [Value.int IntKind.i64 (unpE x).1, Value.int IntKind.i64 (unpE x).2.1, Value.int IntKind.i64 (unpE x).2.2] 1 rfl rfl (fun _ => by kernel_rfl) rfl rfl ?_
    intro Wb6 gb7 egb7 rb8 zb9 bb5
    replace bb1 := Zu bb1 bb5; replace q := Zu q bb5; replace r4 := r4.up bb5; replace o := o.up bb5; replace hs := hs.up bb5
    refine LL.appendT2 rfl rfl eEnc ElEx o (RowL.readsT (ts := [unpE x]) eEnc (by assumption) 1 (by simp)) (by simp [maxLen]; omega) (by simp; omega) (by have := q.size; omega) rfl rfl ?_
    intro v' Wa oa gra hva
    replace q := q.grown gra (by have := q.size; omega) (fun g hg => by have := own_ge o g hg; omega)
    replace r4 := r4.grO gra (own_ne o l3)
    have hsz := gra.size
    rw [← hst] at oa
    refine Za ?_; refine ZL ?_; refine EE.inN ?_; refine ZT ?_; refine CC.region ?_
    refine LL.val (R.addNc rfl rfl rfl rfl (by omega)) rfl rfl rfl ?_
    refine Zm ?_; refine ZL ?_
    exact EE.round (i + 1, v') ⟨rfl, rfl, rfl, rfl, trivial⟩ ⟨by show i + 1 ≤ 10; omega, q, by omega, r4, oa⟩ (by show 10 - (i + 1) < 10 - i; omega)
  case neg =>
    obtain rfl : i = 10 := by omega
    rw [show ws.take 10 = ws from List.take_of_length_le (by omega)] at o
    have hr := o.reads eEnc
    have hol := outZ_len ws
    have hlo : (outZ ws).length ≤ 1048576 := by omega
    obtain ⟨n, hn⟩ : ∃ n, (outZ ws).length = n := ⟨_, rfl⟩
    obtain ⟨a, c, rfl, hc⟩ := hr.form hn
    have hrF := fun W' (hb : Below W.heap.size W W') => hr.up hb
    have hoF := fun W' (hb : Below W.heap.size W W') => (o.up hb).lower (show w.heap.size ≤ B by omega)
    have qW := Below.refl W.heap.size W
    clear o
    have hv := hm.1
    have he := hm.2
    refine Zr ?_; refine ZltF ?_; refine Zq ?_; refine Zc ?_; refine ZN ?_; refine CC.exit ?_; refine EE.thenX ?_; refine EE.thenX ?_; refine EE.inX ?_; refine ZT ?_; refine Zc ?_; refine Zr ?_; refine Zm ?_
    refine Zy (R.call rfl rfl rfl) (words_T (outZ ws) _ _ (hsF W q) hr hv) ?_
    rintro e W5 ⟨rfl, b5⟩
    refine ⟨_, rfl, ?_⟩; replace q := Zu q b5
    replace qW := qW.trans b5
    replace r4 := r4.up b5
    clear hr
    have y5 := b5.size
    clear b5
    have hwl := wrdZ_len (l := outZ ws) (by omega)
    refine Zm ?_; refine Zx ?_; refine Zx ?_; have le1 := r4.lt
    refine LL.alloc (intsZ .u64 (List.replicate 10 0)) rfl rfl rfl rfl rfl ?_
    intro We3 ge4 ege4 re5 ze6 be2
    replace q := Zu q be2; replace qW := Zu qW be2; replace r4 := r4.up be2
    refine LL.storeAZ rfl rfl rfl rfl (by first | assumption | exact List.length_replicate | exact plL_len _ | exact plOf_len _ | simp) re5 (by first | (rw [List.length_map]; exact (by first | assumption | exact List.length_replicate | exact plL_len _ | exact plOf_len _ | simp)) | simp) rfl rfl ?_
    intro We8 re9 be7 ze10
    have hlbe7 := re5.lt
    clear re5
    replace be2 := Zg be2 be7; replace q := Zg q be7; replace qW := Zg qW be7; replace r4 := Zd r4 be7
    have re5 := re9
    clear re9
    refine Za ?_; refine Zq ?_; refine Zr ?_; refine Zm ?_; refine ZneF ?_; refine Zm ?_
    refine LL.val (R.loadZ rfl rfl re5 rfl rfl (by first | assumption | exact List.length_replicate | exact plL_len _ | exact plOf_len _ | simp)) rfl rfl rfl ?_
    refine LL.val (R.loadZ rfl rfl r4 rfl rfl (by first | assumption | exact List.length_replicate | exact plL_len _ | exact plOf_len _ | simp)) rfl rfl rfl ?_
    refine LL.val (R.neZT rfl rfl rfl Tryd.underlying74 Tryd.underlying41 rfl (by decide) rfl (by kernel_rfl) (by assumption) (by assumption) (by assumption)) rfl rfl rfl ?_
    refine Zp ?_; refine Zq ?_; refine ZN ?_; refine ZK ?_; refine ZT ?_; refine Zr ?_; refine Zm ?_; refine Za ?_; refine Za ?_; refine Zq ?_; refine ZR ?_; refine EE.ret _ rfl rfl ?_
    exact ⟨_, rfl, hoF _ qW, q⟩
set_option linter.unusedVariables false
set_option linter.unusedSimpArgs false
section
variable {P : Program} {ops : Array Oper} {Q : Exit → Act → World → Prop} {ok : World → Prop} {r : Option Nat}
/-- A call that panics, whatever else was yielded. -/
def panS (P : Program) (ops : Array Oper) (Q : Exit → Act → World → Prop) (i : Nat) (a : Act) (w : World) : Prop :=
  ∃ o f args R, ops[i]? = some o ∧ dfB o.op = false ∧ Region.wanted o (yielded ops a.tmps) = true ∧ (execOp a.eval o).run P w = .ok (.enter f args) w ∧ Calls P f args w R ∧ ∀ e w'', R e w'' → ∃ ch, e = .panicked ch ∧ ∀ a' : Act, a'.defers = a.defers → a'.tmps.size = a.tmps.size → Q (.panic ch) a' w''
def AnyP (P : Program) (ops : Array Oper) (ok : World → Prop) (Q : Exit → Act → World → Prop) : Nat → Array Bool → Act → World → Prop
  | 0, listed, a, w => Region.ready .any ops listed = [] ∧ Q .normal a w
  | f + 1, listed, a, w => (Region.ready .any ops listed = [] → Q .normal a w) ∧ ∀ i ∈ Region.ready .any ops listed, stepR P ops ok i (AnyP P ops ok Q f (listed.setIfInBounds i true)) a w ∨ panS P ops Q i a w
theorem panS_put {j : Nat} {oi oj : Oper} {v : Value} {a : Act} {w : World} (hj : ops[j]? = some oj) (hap : oi.apart ops oj = true) (hsj : ∀ cs b, oj.op ≠ .select cs b) (h : panS P ops Q j (a.put oi.dst v) w) : panS P ops Q j a w := by
  obtain ⟨h1, h2, h3⟩ := Oper.apart_spec hap
  obtain ⟨o, fn, args, R, ho, hd, hw, hr, hc, hk⟩ := h
  rw [hj] at ho
  cases ho
  rw [wanted_put oj a oi.dst v h1] at hw
  rw [execOp_put oj hsj a oi.dst v h1] at hr
  exact ⟨oj, fn, args, R, hj, hd, hw, hr, hc, fun e w'' hR => by
    obtain ⟨ch, he, hq⟩ := hk e w'' hR
    exact ⟨ch, he, fun a' ha hs => hq a' (by rw [ha]; cases oi.dst <;> rfl) (by rw [hs]; cases oi.dst <;> simp [Act.put])⟩⟩
theorem pure_firstP {i : Nat} {oi : Oper} {v : Value} (hi : ops[i]? = some oi) (hsel : ∀ (j : Nat) (o : Oper) cs b, ops[j]? = some o → o.op ≠ .select cs b) :
    ∀ (f : Nat) (listed : Array Bool) (a : Act) (w : World),
      (∀ j oj, ops[j]? = some oj → j ≠ i → listed.getD j true = false → (∀ e ∈ oj.after, Region.binds .any e = true → e.on ≠ i) → oi.apart ops oj = true) →
      i ∈ Region.ready .any ops listed → ok w → Pure P ops ok oi v a → AnyP P ops ok Q f (listed.setIfInBounds i true) (a.put oi.dst v) w → AnyP P ops ok Q (f + 1) listed a w := by
  intro f
  induction f with
  | zero =>
    intro listed a w _ hr hw hy H
    refine ⟨fun h => (by rw [h] at hr; cases hr), fun j hj => ?_⟩
    by_cases hji : j = i
    · subst hji; exact .inl (hy.step hi hw H)
    · have := ready_mono hj hji
      rw [H.1] at this
      cases this
  | succ f ih =>
    intro listed a w hfree hr hw hy H
    refine ⟨fun h => (by rw [h] at hr; cases hr), fun j hj => ?_⟩
    by_cases hji : j = i
    · subst hji; exact .inl (hy.step hi hw H)
    · have h1 := H.2 j (ready_mono hj hji)
      obtain ⟨hjun, oj, hoj, hall⟩ := mem_ready.1 hj
      have hnot : ∀ e ∈ oj.after, Region.binds .any e = true → e.on ≠ i := fun e he hb heq => by
        have h1 := hall e he hb
        have h0 := (mem_ready.1 hr).1
        rw [heq] at h1
        rcases Nat.lt_or_ge i listed.size with h' | h'
        · simp [h'] at h0 h1; rw [h0] at h1; cases h1
        · simp [Array.getElem?_eq_none h'] at h1
      rcases h1 with h1 | h1
      · have h2 := stepR_put hoj (hfree j oj hoj hji hjun hnot) (fun cs b => hsel i oi cs b hi) (fun cs b => hsel j oj cs b hoj) hw hy h1
        have hfree' : ∀ k ok', ops[k]? = some ok' → k ≠ i → (listed.setIfInBounds j true).getD k true = false →
            (∀ e ∈ ok'.after, Region.binds .any e = true → e.on ≠ i) → oi.apart ops ok' = true := fun k ok' hk hki hun hno => by
          refine hfree k ok' hk hki ?_ hno
          by_cases hjk : j = k
          · subst hjk; exact hjun
          · rw [getD_set_ne true hjk] at hun; exact hun
        refine .inl (stepR_mono (fun a' w' h3 => ih (listed.setIfInBounds j true) a' w' hfree' (ready_mono hr (Ne.symm hji)) h3.2.1 h3.1 ?_) h2)
        rw [Array.setIfInBounds_comm _ _ hji]
        exact h3.2.2
      · exact .inr (panS_put hoj (hfree j oj hoj hji hjun hnot) (fun cs b => hsel j oj cs b hoj) h1)
end
/-- What is left of a region, these done; calls may panic. -/
structure AP (P : Program) (ops : Array Oper) (ok : World → Prop) (Q : Exit → Act → World → Prop) (n : Nat) (D : List Deferred) (M : Slots) (f : Nat) (listed : Array Bool) (w : World) : Prop where
  h : ∀ a, Fr n D M a → AnyP P ops ok Q f listed a w
section
variable {P : Program} {l : List Oper} {ops : Array Oper} {Q : Exit → Act → World → Prop} {ok : World → Prop} {r : Option Nat} {n f : Nat} {D : List Deferred} {M : Slots} {w w' : World} {listed : Array Bool} {o : Oper} {v : Value}
theorem AP.pure (i : Nat) (hi : ops[i]? = some o) (hw : ok w) (hB : rfB ops listed i = true) (hr : ∀ w', ok w' → Runs P n D M o w' (.value v) w') (hd : dstB n o.dst = true) (hg : wantB ops M o.guard = some true) (k : AP P ops ok Q n D (putM M o.dst v) f (listed.setIfInBounds i true) w) : AP P ops ok Q n D M (f + 1) listed w := AP.mk fun a F => by
  simp only [rfB, Bool.and_eq_true] at hB
  exact pure_firstP hi (Region.noSelect_spec hB.2) f listed a w (Region.free_spec hi hB.1.2) (by simpa using hB.1.1) hw (.inl ⟨F.want hg, fun w' hw' => .inl (hr w' hw' a F)⟩) (k.h _ (F.put _ _ hd))
theorem AP.pureC {g : FuncId} {args : Array Value} (i : Nat) (hi : ops[i]? = some o) (hw : ok w) (hB : rfB ops listed i = true) (hr : ∀ w', Runs P n D M o w' (.enter g args) w') (hc : ∀ w', ok w' → Calls P g args w' fun e w'' => e = .returned v ∧ w' = w'') (hd : dstB n o.dst = true) (hg : wantB ops M o.guard = some true) (k : AP P ops ok Q n D (putM M o.dst v) f (listed.setIfInBounds i true) w) : AP P ops ok Q n D M (f + 1) listed w := AP.mk fun a F => by
  simp only [rfB, Bool.and_eq_true] at hB
  exact pure_firstP hi (Region.noSelect_spec hB.2) f listed a w (Region.free_spec hi hB.1.2) (by simpa using hB.1.1) hw (.inl ⟨F.want hg, fun w' hw' => .inr ⟨g, args, hr w' a F, (hc w' hw').mono fun _ _ h => ⟨h.1, h.2.symm⟩⟩⟩) (k.h _ (F.put _ _ hd))
/-- A call that comes next, and panics. -/
theorem AP.pan {g : FuncId} {args : Array Value} {R : Ending → World → Prop} (i : Nat) (hrd : Region.ready .any ops listed = [i]) (hi : ops[i]? = some o) (hdf : dfB o.op = false) (hr : Runs P n D M o w (.enter g args) w) (hg : wantB ops M o.guard = some true) (hc : Calls P g args w R)
    (k : ∀ e w', R e w' → ∃ ch, e = .panicked ch ∧ EE Q n D (fun _ => none) (.panic ch) w') : AP P ops ok Q n D M (f + 1) listed w := AP.mk fun a F =>
  ⟨fun h => absurd (h.symm.trans hrd) (by simp), fun j hj => by
    rw [hrd] at hj
    simp only [List.mem_singleton] at hj
    subst hj
    refine .inr ⟨o, g, args, R, hi, hdf, F.want hg, hr a F, hc, fun e w'' hR => ?_⟩
    obtain ⟨ch, he, hk⟩ := k e w'' hR
    exact ⟨ch, he, fun a' ha hs => hk.h a' ⟨hs.trans F.size, ha.trans F.defers, fun s v h => by cases h⟩⟩⟩
end
set_option linter.unusedVariables false
set_option linter.unusedSimpArgs false
set_option maxRecDepth 100000
set_option maxHeartbeats 8000000
theorem R.toArr {P : Program} {n : Nat} {D : List Deferred} {M : Slots} {w w' : World} {o : Oper} {x : Operand} {t : TypeId} {vx v : Value} (ho : o.op = .sliceToArrayPointer t x) (hx : evM M x = some vx) (hr : (Instr.arrayAt t vx).run P w = .ok v w') : Runs P n D M o w (.value v) w' := fun a F => by
  unfold execOp; simp only [ho, F.ev hx, Sem.run_bind, Sem.run_pure, hr, Result.andThen_ok]
theorem I.arrU (a : Option Addr) (cap : Nat) (w : World) : (Instr.arrayAt 74 (.slice a 10 cap)).run Tryd.prog w = .ok (.pointer a) w := by kernel_rfl
/-- Words that lie somewhere. -/
structure WdsAt (X : World) (bk off : Nat) (ws : List Nat) : Prop where
  cells : ∀ (j x : Nat), ws[j]? = some x → X.cell? ⟨bk, off + j, none⟩ = some (.int .u64 (x : Int))
  lt : bk < X.heap.size
theorem WdsAt.part {X : World} {bk off : Nat} {ws : List Nat} (h : WdsAt X bk off ws) (lo m : Nat) (hl : lo + m ≤ ws.length) : Cells X ⟨bk, off + lo, none⟩ (ints .u64 ((ws.drop lo).take m)) := fun j v hj => by
  rw [add_plain]
  simp only [ints, List.getElem?_map, List.getElem?_take] at hj
  split at hj
  · rw [List.getElem?_drop] at hj
    cases hx : ws[lo + j]? with
    | none => rw [hx] at hj; cases hj
    | some x =>
      rw [hx] at hj
      simp only [Option.map_some, Option.some.injEq] at hj
      rw [← hj, show off + lo + j = off + (lo + j) by omega]
      exact h.cells _ _ hx
  · cases hj
theorem WdsAt.reads {X : World} {bk off : Nat} {ws : List Nat} (h : WdsAt X bk off ws) (lo m c : Nat) (hl : lo + m ≤ ws.length) (hc : m ≤ c) : Reads X (.slice (some ⟨bk, off + lo, none⟩) m c) (ints .u64 ((ws.drop lo).take m)) := by
  have hlen : (ints .u64 ((ws.drop lo).take m)).length = m := by simp [ints]; omega
  have hp := h.part lo m hl
  refine ⟨some ⟨bk, off + lo, none⟩, c, by rw [hlen], by rw [hlen]; exact hc, fun _ => ⟨bk, off + lo, rfl, h.lt, fun j hj => ?_⟩⟩
  have := hp j _ (List.getElem?_eq_getElem hj)
  rw [add_plain] at this
  rw [this, List.getElem?_eq_getElem hj]
abbrev KU (w : World) (gu : Nat) (i : Nat) : Prop := i < w.heap.size ∧ i ≠ gu
def wsZ (ws : List Nat) : List Int := ((ws.drop 2).take 10).map fun n : Nat => (n : Int)
theorem wsZ_ints (ws : List Nat) : ints .u64 ((ws.drop 2).take 10) = intsZ .u64 (wsZ ws) := by
  unfold ints intsZ wsZ
  rw [List.map_map]
  rfl
theorem wsZ_len {ws : List Nat} (h : ws.length = 16) : (wsZ ws).length = 10 := by simp [wsZ, h]
theorem wsZ_bnd {ws : List Nat} (h : ∀ x ∈ ws, x < 18446744073709551616) (i : Nat) (z : Int) (hz : (wsZ ws)[i]? = some z) : 0 ≤ z ∧ z < 18446744073709551616 := by
  obtain ⟨n, hn, rfl⟩ := List.mem_map.1 (List.mem_of_getElem? hz)
  have := h n (List.mem_of_mem_drop (List.mem_of_mem_take hn))
  omega
section
variable (gu bk off cap : Nat) (ws : List Nat) (k l z : Int) (a : Value) (r p : Int) (t : Bs) (w : World)
theorem rd2_T (hu : RowL w gu 72 (inL k l z a r p t)) (hW : ∀ X, Kept (KU w gu) w X → WdsAt X bk off ws) (x2 x3 : Nat) (h2 : ws[2]? = some x2) (h3 : ws[3]? = some x3) (hx : x2 ≤ 65536 ∧ x3 ≤ 65536) (hcap : 16 ≤ cap) : Calls Tryd.prog 68 #[.pointer (some ⟨gu, 0, none⟩), .slice (some ⟨bk, off, none⟩) 16 cap] w fun e w' => e = .returned (.tuple #[]) ∧ RowL w' gu 72 (inL k l z a (x2 : Int) (x3 : Int) t) ∧ Kept (KU w gu) w w' := by
  have hkk := Kept.refl (KU w gu) w
  have hlu := hu.lt
  have c2 := (hW w hkk).cells _ _ h2
  have c3 := (hW w hkk).cells _ _ h3
  refine X.fn Tryd.func68 rfl (n := 20) rfl rfl ?_
  refine CC.join (fun l_ W10 => l_ = [] ∧ (Kept (KU w gu) w W10) ∧ (RowL W10 gu 72 [Value.int IntKind.i64 k, Value.int IntKind.i64 l, Value.int IntKind.i64 z, a, Value.int IntKind.i64 ↑x2, Value.int IntKind.i64 ↑x3, strV t]) ∧ (w.heap.size ≤ W10.heap.size)) (fun J14 => ?_) ?restJ14
  case' restJ14 =>
    clear hkk
    clear hu
    rintro _ W10 ⟨rfl, hkk, hu, z13⟩
  refine EE.end _ rfl rfl ?_
  exact ⟨rfl, hu, hkk⟩
  refine CC.freeZ (fun W_ j => j < W_.heap.size ∧ (j ≠ gu)) (by kernel_rfl) (by kernel_rfl) (fun W16 b15 z17 => ?_)
  replace hu := hu.up b15; replace hkk := Zh hkk b15; have y18 := hkk.size; replace c2 := cell_up c2 b15; replace c3 := cell_up c3 b15
  have hok : Kept (fun j => j < W16.heap.size ∧ (j ≠ gu)) W16 W16 := Kept.refl _ _
  refine AA.pure 0 rfl hok (by kernel_rfl) (fun w' b' => R.move rfl rfl) rfl rfl ?_
  refine AA.pure 1 rfl hok (by kernel_rfl) (fun w' b' => R.move rfl rfl) rfl rfl ?_
  refine AA.pure 2 rfl hok (by kernel_rfl) (fun w' b' => R.move rfl rfl) rfl rfl ?_
  refine AA.pure 3 rfl hok (by kernel_rfl) (fun w' b' => R.index rfl rfl rfl (I.ixS1c rfl rfl (by omega))) rfl rfl ?_
  refine AA.pure 6 rfl hok (by kernel_rfl) (fun w' b' => R.move rfl rfl) rfl rfl ?_
  refine AA.pure 7 rfl hok (by kernel_rfl) (fun w' b' => R.index rfl rfl rfl (I.ixS1c rfl rfl (by omega))) rfl rfl ?_
  refine AA.two 4 8 (by kernel_rfl) ?_ ?_
  refine SR.val rfl (R.load rfl rfl (I.ld1 rfl (by assumption))) rfl rfl hok ?_
  refine AA.pureC 5 rfl hok (by kernel_rfl) (fun w' => (R.call rfl rfl rfl)) (fun w' b' => number_T _ w' (by first | assumption | omega)) rfl rfl ?_
  refine AA.one 8 (by kernel_rfl) ?_
  refine SR.val rfl (R.load rfl rfl (I.ld1 rfl (by assumption))) rfl rfl hok ?_
  refine AA.pureC 9 rfl hok (by kernel_rfl) (fun w' => (R.call rfl rfl rfl)) (fun w' b' => number_T _ w' (by first | assumption | omega)) rfl rfl ?_
  refine AA.pure 10 rfl hok (by kernel_rfl) (fun w' b' => R.nil rfl rfl) rfl rfl ?_
  refine AA.pure 11 rfl hok (by kernel_rfl) (fun w' b' => R.field rfl rfl (I.fld rfl)) rfl rfl ?_
  refine AA.pure 12 rfl hok (by kernel_rfl) (fun w' b' => R.field rfl rfl (I.fld rfl)) rfl rfl ?_
  refine AA.one 13 (by kernel_rfl) ?_
  refine ZR.store rfl rfl rfl rfl rfl hu (by exact Nat.le_of_ble_eq_true rfl) rfl rfl rfl rfl ?_
  intro W20 r21 b19 z22
  have hlb19 := hu.lt
  replace r21 : RowL W20 _ 72 [.int .i64 k, .int .i64 l, .int .i64 z, a, .int .i64 ↑x2, .int .i64 p, strV t] := r21
  clear hu
  replace hkk := Zo hkk b19; replace hok := Zo hok b19
  have hu := r21
  clear r21
  refine ⟨hok, ?_⟩
  refine AA.pure 14 rfl hok (by kernel_rfl) (fun w' b' => R.nil rfl rfl) rfl rfl ?_
  refine AA.pure 15 rfl hok (by kernel_rfl) (fun w' b' => R.field rfl rfl (I.fld rfl)) rfl rfl ?_
  refine AA.pure 16 rfl hok (by kernel_rfl) (fun w' b' => R.field rfl rfl (I.fld rfl)) rfl rfl ?_
  refine AA.one 17 (by kernel_rfl) ?_
  refine ZR.store rfl rfl rfl rfl rfl hu (by exact Nat.le_of_ble_eq_true rfl) rfl rfl rfl rfl ?_
  intro W24 r25 b23 z26
  have hlb23 := hu.lt
  replace r25 : RowL W24 _ 72 [.int .i64 k, .int .i64 l, .int .i64 z, a, .int .i64 ↑x2, .int .i64 ↑x3, strV t] := r25
  clear hu
  replace hkk := Zo hkk b23; replace hok := Zo hok b23
  have hu := r25
  clear r25
  refine ⟨hok, ?_⟩
  refine AA.done rfl ?_
  clear hok
  refine EE.end _ rfl rfl ?_
  exact ⟨rfl, hu, hkk⟩
  refine SR.val rfl (R.load rfl rfl (I.ld1 rfl (by assumption))) rfl rfl hok ?_
  refine AA.one 4 (by kernel_rfl) ?_
  refine SR.val rfl (R.load rfl rfl (I.ld1 rfl (by assumption))) rfl rfl hok ?_
  refine AA.pureC 5 rfl hok (by kernel_rfl) (fun w' => (R.call rfl rfl rfl)) (fun w' b' => number_T _ w' (by first | assumption | omega)) rfl rfl ?_
  refine AA.pureC 9 rfl hok (by kernel_rfl) (fun w' => (R.call rfl rfl rfl)) (fun w' b' => number_T _ w' (by first | assumption | omega)) rfl rfl ?_
  refine AA.pure 10 rfl hok (by kernel_rfl) (fun w' b' => R.nil rfl rfl) rfl rfl ?_
  refine AA.pure 11 rfl hok (by kernel_rfl) (fun w' b' => R.field rfl rfl (I.fld rfl)) rfl rfl ?_
  refine AA.pure 12 rfl hok (by kernel_rfl) (fun w' b' => R.field rfl rfl (I.fld rfl)) rfl rfl ?_
  refine AA.one 13 (by kernel_rfl) ?_
  refine ZR.store rfl rfl rfl rfl rfl hu (by exact Nat.le_of_ble_eq_true rfl) rfl rfl rfl rfl ?_
  intro W28 r29 b27 z30
  have hlb27 := hu.lt
  replace r29 : RowL W28 _ 72 [.int .i64 k, .int .i64 l, .int .i64 z, a, .int .i64 ↑x2, .int .i64 p, strV t] := r29
  clear hu
  replace hkk := Zo hkk b27; replace hok := Zo hok b27
  have hu := r29
  clear r29
  refine ⟨hok, ?_⟩
  refine AA.pure 14 rfl hok (by kernel_rfl) (fun w' b' => R.nil rfl rfl) rfl rfl ?_
  refine AA.pure 15 rfl hok (by kernel_rfl) (fun w' b' => R.field rfl rfl (I.fld rfl)) rfl rfl ?_
  refine AA.pure 16 rfl hok (by kernel_rfl) (fun w' b' => R.field rfl rfl (I.fld rfl)) rfl rfl ?_
  refine AA.one 17 (by kernel_rfl) ?_
  refine ZR.store rfl rfl rfl rfl rfl hu (by exact Nat.le_of_ble_eq_true rfl) rfl rfl rfl rfl ?_
  intro W32 r33 b31 z34
  have hlb31 := hu.lt
  replace r33 : RowL W32 _ 72 [.int .i64 k, .int .i64 l, .int .i64 z, a, .int .i64 ↑x2, .int .i64 ↑x3, strV t] := r33
  clear hu
  replace hkk := Zo hkk b31; replace hok := Zo hok b31
  have hu := r33
  clear r33
  refine ⟨hok, ?_⟩
  refine AA.done rfl ?_
  clear hok
  refine EE.end _ rfl rfl ?_
  exact ⟨rfl, hu, hkk⟩
end
theorem readsT_far {α : Type} {enc : α → List Value} {k : Nat} {K : Nat → Prop} {w w' : World} {v : Value} {ts : List α} (h : ReadsT enc k w v ts) (hk : Kept K w w') (hb : ∀ b off n c, v = .slice (some ⟨b, off, none⟩) n c → b < w.heap.size → K b) : ReadsT enc k w' v ts := by
  have h0 := h
  obtain ⟨a, cap, e, hc, h⟩ := h
  rcases Classical.em (ts = []) with hne | hne
  · subst hne
    exact ⟨a, cap, e, hc, fun h => (h rfl).elim⟩
  · obtain ⟨b, off, ha, hlt, _⟩ := h hne
    subst ha
    subst e
    exact h0.kp hk (hb _ _ _ _ rfl hlt)
theorem ownsT_ge {α : Type} {enc : α → List Value} {k : Nat} {w : World} {base e : Nat} {v : Value} {ts : List α} (h : OwnsT enc k w base e v ts) : ∀ b off n c, v = .slice (some ⟨b, off, none⟩) n c → base ≤ b := by
  intro b off n c hv
  rcases h.2 with ⟨e1, _⟩ | ⟨g, cap, cur, e1, hbg, _⟩
  · rw [e1] at hv; cases hv
  · rw [e1] at hv; cases hv; exact hbg
theorem wds_N {X : World} {bk off : Nat} {ws : List Nat} (h : WdsAt X bk off ws) (hl : 12 ≤ ws.length) : CellsN X ⟨bk, off + 2, none⟩ 10 (intsZ .u64 (wsZ ws)) := by
  rw [← wsZ_ints]
  exact ⟨h.part 2 10 (by omega), by simp [ints]; omega⟩
theorem rd1_T (gu bk off cap : Nat) (ws : List Nat) (k l z : Int) (a : Value) (r p : Int) (t : Bs) (w : World) (hS : Start w) (hg0 : 0 < gu) (hws : ws.length = 16) (hwb : ∀ x ∈ ws, x < 18446744073709551616) (hu : RowL w gu 72 (inL k l z a r p t)) (hW : ∀ X, Kept (KU w gu) w X → WdsAt X bk off ws) (x1 : Nat) (h1 : ws[1]? = some x1) (hx : x1 ≤ 65536) (hm : mapW (wsZ ws)) (hcap : 16 ≤ cap) : Calls Tryd.prog 64 #[.pointer (some ⟨gu, 0, none⟩), .slice (some ⟨bk, off, none⟩) 16 cap] w fun e w' => e = .returned (.tuple #[]) ∧ (∃ v, RowL w' gu 72 (inL k l (x1 : Int) v r p t) ∧ ReadsT eE 3 w' v (outZ (wsZ ws)) ∧ ∀ b off n c, v = .slice (some ⟨b, off, none⟩) n c → w.heap.size ≤ b) ∧ Kept (KU w gu) w w' := by
  have hkk := Kept.refl (KU w gu) w
  have hlu := hu.lt
  have hS0 := hS.pos
  have hSF : ∀ X, Kept (KU w gu) w X → Start X := fun X h => hS.kept h ⟨hS0, by omega⟩
  have c1 := (hW w hkk).cells _ _ h1
  have hl := wsZ_len hws
  have hb := wsZ_bnd hwb
  have hcN : ∀ X, Kept (KU w gu) w X → CellsN X ⟨bk, off + 2, none⟩ 10 (intsZ .u64 (wsZ ws)) := fun X h => wds_N (hW X h) (by omega)
  clear hS
  refine X.fn Tryd.func64 rfl (n := 30) rfl rfl ?_
  refine Zr ?_; refine Zm ?_; refine Zm ?_; refine Zi ?_; refine Zk ?_
  refine Zy (R.call rfl rfl rfl) (number_T _ _ (by first | assumption | omega)) ?_
  rintro e W' ⟨rfl, rfl⟩
  refine ⟨_, rfl, ?_⟩
  refine LL.val (R.nil rfl rfl) rfl rfl rfl ?_
  refine Zf ?_; refine Zf ?_
  refine LL.store rfl rfl rfl rfl hu (by exact Nat.le_of_ble_eq_true rfl) rfl rfl rfl rfl ?_
  intro W74 r75 b73 z76
  have hlb73 := hu.lt
  replace r75 : RowL W74 _ 72 [.int .i64 k, .int .i64 l, .int .i64 ↑x1, a, .int .i64 r, .int .i64 p, strV t] := r75
  clear hu
  replace hkk := Zo hkk b73
  have hu := r75
  clear r75
  refine Zq ?_; refine Zr ?_; refine Zm ?_
  refine LL.val (R.slice rfl rfl rfl rfl rfl (I.slSc rfl rfl rfl (by omega) (by omega) (by omega))) rfl rfl rfl ?_
  (refine LL.val (R.toArr rfl rfl (I.arrU _ _ _)) rfl rfl rfl ?_)
  (refine LL.val (R.load rfl rfl (I.ldM (hcN _ hkk) rfl rfl)) rfl rfl rfl ?_)
  have l97 := hu.lt
  (refine Zy (R.call rfl rfl rfl) (ofo_T (wsZ ws) _ (hSF _ hkk) hl hb hm) ?_; rintro e W96 ⟨v8, rfl, o8, b93⟩; refine ⟨_, rfl, ?_⟩; obtain ⟨n8, en8⟩ : ∃ n, (outZ (wsZ ws)).length = n := ⟨_, rfl⟩; have hge8 := ownsT_ge o8; obtain ⟨a8, c8, rfl, hc8⟩ := (o8.reads eEnc).form en8)
  have zb93 := b93.size; replace hkk := Zh hkk b93; have y101 := hkk.size; replace hu := hu.up b93; refine Zm ?_; refine Zx ?_; refine Zx ?_; refine Za ?_; refine Za ?_; refine Zq ?_; refine Zr ?_; refine Zm ?_; refine ZneF ?_
  refine Zy (R.call rfl rfl rfl) (refuse_F _) ?_
  rintro e W' ⟨rfl, rfl⟩
  refine ⟨_, rfl, ?_⟩; refine Zq ?_; refine CC.region ?_; refine Zm ?_; refine Zm ?_
  refine LL.val (R.nil rfl rfl) rfl rfl rfl ?_
  refine Zf ?_; refine Zf ?_
  refine LL.store rfl rfl rfl rfl hu (by exact Nat.le_of_ble_eq_true rfl) rfl rfl rfl rfl ?_
  intro W215 r216 b214 z217
  have hlb214 := hu.lt
  replace r216 : RowL W215 _ 72 [.int .i64 k, .int .i64 l, .int .i64 ↑x1, .slice a8 n8 c8, .int .i64 r, .int .i64 p, strV t] := r216
  clear hu
  replace o8 := o8.grown b214 (own_ne o8 (by omega))
  replace hkk := Zo hkk b214
  have hu := r216
  clear r216
  refine ZL ?_; refine EE.end _ rfl rfl ?_
  exact ⟨rfl, ⟨_, by assumption, o8.reads eEnc, fun b off n c e => by have := hge8 b off n c e; omega⟩, hkk⟩
def ofN (bs : List Nat) : Bs := bs.map UInt8.ofNat
theorem ofN_nbL (l : Bs) : ofN (nbL l) = l := by
  unfold nbL ofN
  rw [List.map_map]
  conv => rhs; rw [← List.map_id l]
  apply List.map_congr_left
  intro x hx
  simp
/-- The target that words tell, of so many bytes. -/
def tgW (ws : List Nat) (k : Nat) : Bs := ofN ((bytesL ((ws.drop 2).take ((k + 7) / 8))).take k)
/-- May so many bytes stand there? -/
def tgOk (ws : List Nat) (k : Nat) : Prop := zerosB ((bytesL ((ws.drop 2).take ((k + 7) / 8))).drop k) = true
theorem rd3_T (gu bk off cap : Nat) (ws : List Nat) (k l z : Int) (a : Value) (r p : Int) (t : Bs) (w : World) (hws : ws.length = 16) (hu : RowL w gu 72 (inL k l z a r p t)) (hW : ∀ X, Kept (KU w gu) w X → WdsAt X bk off ws) (x1 : Nat) (h1 : ws[1]? = some x1) (hx : 1 ≤ x1 ∧ x1 ≤ 112) (hm : tgOk ws x1) (hcap : 16 ≤ cap) : Calls Tryd.prog 75 #[.pointer (some ⟨gu, 0, none⟩), .slice (some ⟨bk, off, none⟩) 16 cap] w fun e w' => e = .returned (.tuple #[]) ∧ RowL w' gu 72 (inL k l z a r p (tgW ws x1)) ∧ Kept (KU w gu) w w' := by
  have hkk := Kept.refl (KU w gu) w
  have hlu := hu.lt
  have c1 := (hW w hkk).cells _ _ h1
  have hlen : ((ws.drop 2).take ((x1 + 7) / 8)).length = (x1 + 7) / 8 := by simp; omega
  have hT : ∀ X, Kept (KU w gu) w X → Calls Tryd.prog 86 #[.slice (some ⟨bk, off + 2 * 1, none⟩) ((x1 + 7) / 8) (cap - 2), .int .i64 (x1 : Int)] X fun e w' => ∃ v', e = .returned (.tuple #[v', .int .i64 0]) ∧ Reads w' v' (ints .u8 ((bytesL ((ws.drop 2).take ((x1 + 7) / 8))).take x1)) ∧ Below X.heap.size X w' := fun X hX => by
    have h := take_any (.slice (some ⟨bk, off + 2, none⟩) ((x1 + 7) / 8) (cap - 2)) ((ws.drop 2).take ((x1 + 7) / 8)) x1 X ((hW X hX).reads 2 ((x1 + 7) / 8) (cap - 2) (by omega) (by omega)) (by omega) hlen.symm
    refine h.mono fun e w' hh => ?_
    obtain ⟨v', no, rfl, b, ⟨_, rfl, hr⟩ | ⟨hz, _, _⟩⟩ := hh
    · exact ⟨v', rfl, hr, b⟩
    · unfold tgOk at hm
      rw [hm] at hz
      cases hz
  refine X.fn Tryd.func75 rfl (n := 35) rfl rfl ?_
  refine Zr ?_; refine Zm ?_; refine Zi ?_; refine Zk ?_
  refine Zy (R.call rfl rfl rfl) (number_T _ _ (by first | assumption | omega)) ?_
  rintro e W' ⟨rfl, rfl⟩
  refine ⟨_, rfl, ?_⟩; refine Za ?_; refine Zq ?_; refine Zr ?_; refine Zm ?_
  refine Zy (R.call rfl rfl rfl) (within_T _ _ _ _ (by first | assumption | omega)) ?_
  rintro e W' ⟨rfl, rfl⟩
  refine ⟨_, rfl, ?_⟩; refine Zt ?_
  refine Zy (R.call rfl rfl rfl) (refuse_F _) ?_
  rintro e W' ⟨rfl, rfl⟩
  refine ⟨_, rfl, ?_⟩; refine Zq ?_; refine Zr ?_; refine Zm ?_; refine Zm ?_
  refine LL.val (R.addNc rfl rfl rfl rfl (by omega)) rfl rfl rfl ?_
  refine LL.val (R.quoNc rfl rfl rfl rfl (by omega) (by omega)) rfl rfl rfl ?_
  refine LL.val (R.addI rfl rfl rfl (by omega)) rfl rfl rfl ?_
  (refine LL.val (R.slice rfl rfl rfl rfl rfl (I.slS (lo := 2) (hi := 2 + (x1 + 7) / 8) rfl (by omega) (by omega) (by omega))) rfl rfl rfl ?_; (try rw [show 2 + (x1 + 7) / 8 - 2 = (x1 + 7) / 8 by omega]))
  refine Zm ?_; have l125 := hu.lt
  (refine Zy (R.call rfl rfl rfl) (hT _ hkk) ?_; rintro e W124 ⟨v8, rfl, r8, b121⟩; refine ⟨_, rfl, ?_⟩)
  have zb121 := b121.size; replace hu := hu.up b121; replace hkk := Zh hkk b121; have y129 := hkk.size; replace c1 := cell_up c1 b121; refine Zm ?_; refine Zx ?_; refine Zx ?_; refine Za ?_; refine Za ?_; refine Zq ?_; refine Zr ?_; refine Zm ?_; refine ZneF ?_
  refine Zy (R.call rfl rfl rfl) (refuse_F _) ?_
  rintro e W' ⟨rfl, rfl⟩
  refine ⟨_, rfl, ?_⟩; refine Zq ?_; refine CC.region ?_; refine Zm ?_; refine Zm ?_
  (refine LL.val (R.conv rfl rfl (run_toStr rfl rfl r8)) rfl rfl rfl ?_)
  refine LL.val (R.nil rfl rfl) rfl rfl rfl ?_
  refine Zf ?_; refine Zf ?_
  refine LL.store rfl rfl rfl rfl hu (by exact Nat.le_of_ble_eq_true rfl) rfl rfl rfl rfl ?_
  intro W251 r252 b250 z253
  have hlb250 := hu.lt
  replace r252 : RowL W251 _ 72 [.int .i64 k, .int .i64 l, .int .i64 z, a, .int .i64 r, .int .i64 p, .string (strB (List.take x1 (bytesL (List.take ((x1 + 7) / 8) (List.drop 2 ws)))))] := r252
  clear hu
  replace hkk := Zo hkk b250
  have hu := r252
  clear r252
  refine ZL ?_; refine EE.end _ rfl rfl ?_
  exact ⟨rfl, by assumption, hkk⟩
set_option linter.unusedVariables false
set_option linter.unusedSimpArgs false
section
variable {P : Program} {w : World} {t : TypeId} {o : Oper} {x y : Operand} {n i : Nat} {D : List Deferred} {M : Slots} {ops : Array Oper} {ok : World → Prop} {K : Slots → World → Prop}
theorem ZR.makeMap (hi : ops[i]? = some o) (hr : Runs P n D M o w (.value (.map (some w.heap.size))) (w.alloc (.map #[] 0))) (hd : dstB n o.dst = true) (hg : wantB ops M o.guard = some true)
    (c : ∀ w1 g, g = w.heap.size → (∀ (α β : Type) (d : TypeDesc) (ke : α → Value) (ve : β → Value), MapK d ke ve w1 g 0 (fun _ => none)) → w1.heap.size = g + 1 → Below w.heap.size w w1 → ok w1 ∧ K (putM M o.dst (.map (some g))) w1) : SR P ops ok i K n D M w :=
  have h := c _ _ rfl (fun _ _ _ _ _ => (MapK.made w).2 fun _ => rfl) (by simp) (Below.alloc0 w _)
  SR.val hi hr hd hg h.1 h.2
end
/-- May an inode be? -/
def okI (k l z : Int) (m : List Ex) (r p : Int) (t : Bs) : Prop :=
  (0 ≤ l ∧ l ≤ 65535) ∧ (k = 0 ∧ l = 0 ∧ z = 0 ∧ m = [] ∧ r = 0 ∧ p = 0 ∧ t = [] ∨
    k = 1 ∧ r = 0 ∧ p = 0 ∧ t = [] ∧ okF z m ∨
    k = 2 ∧ z = 0 ∧ m = [] ∧ t = [] ∧ (1 ≤ r ∧ r ≤ 2047) ∧ 1 ≤ p ∧ p ≤ 256 ∨
    k = 3 ∧ z = 0 ∧ m = [] ∧ r = 0 ∧ p = 0 ∧ (1 ≤ t.length ∧ t.length ≤ 112) ∧ (0 : UInt8) ∉ t)
theorem kinds_none {k : Int} (h : k < 0 ∨ 3 < k) : kindsF k = none := by
  unfold kindsF putMap
  rw [if_neg (by omega), if_neg (by omega), if_neg (by omega), if_neg (by omega)]
theorem kF_0 : kindsF 0 = some kd0 := rfl
theorem kF_1 : kindsF 1 = some kd1 := rfl
theorem kF_2 : kindsF 2 = some kd2 := rfl
theorem kF_3 : kindsF 3 = some kd3 := rfl
abbrev kdZ : Value := .agg #[.nilFunc, .nilFunc, .nilFunc, .nilFunc]
end Go.Proofs.YtnoefalgmekjbaaDoor
