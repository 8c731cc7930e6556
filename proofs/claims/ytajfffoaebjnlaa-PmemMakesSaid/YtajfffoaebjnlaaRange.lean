/- Ranges over functions, in the walk by explicit steps. Over any program. -/
import Derived.Test.YtajfffoaebjnlaaStep
namespace Go.Proofs.Ytajfffoaebjnlaa
set_option linter.unusedVariables false
set_option linter.unusedSimpArgs false
open Go.RowKit Go.Shelf

/-- A function whose body ranges over functions. -/
theorem X.fnM {P : Program} {f : FuncId} {fn : Func} {c : Code} {args : Array Value} {w : World} {R : Ending → World → Prop} {n : Nat} (hf : P.funcs[f]? = some fn) (hb : fn.body = some c) (hn : fn.ntmps = n) (ha : Nat.ble args.size n = true)
    (h : CC none P (calmP (bodyPostM Fence.wide 3 P fn R)) n [] (argM args) c w) : Calls P f args w R := by
  subst hn
  exact calls_marks hf hb ((wpIn_wide (n := 3)).1 (h.h _ (Fr.start args _ (by simpa using ha))))

section
variable {P : Program} {fn : Func} {R : Ending → World → Prop} {n : Nat} {M : Slots} {w : World}
def mark (E : Nat) : Deferred := { target := .collected E, args := #[] }
theorem retM0 {a : Act} {vs : List Value} (F : Fr n [] M a) (h : resM M fn.results.toList = some vs) (h3 : Nat.ble vs.length 3 = true) (hR : R (.returned (resV vs)) w) : LeavesInM Fence.wide 3 P fn a.tmps R [] .returning w :=
  ⟨_, results_run F h (by simpa using h3), hR⟩
/-- A return ahead of all ranges. -/
theorem EE.retM (vs : List Value) (h : resM M fn.results.toList = some vs) (h3 : Nat.ble vs.length 3 = true) (hR : R (.returned (resV vs)) w) : EE (calmP (bodyPostM Fence.wide 3 P fn R)) n [] M .ret w := EE.mk fun a F => by
  show LeavesInM Fence.wide 3 P fn a.tmps R a.defers .returning w
  rw [F.defers]
  exact retM0 F h h3 hR
theorem EE.endM (vs : List Value) (h : resM M fn.results.toList = some vs) (h3 : Nat.ble vs.length 3 = true) (hR : R (.returned (resV vs)) w) : EE (calmP (bodyPostM Fence.wide 3 P fn R)) n [] M .normal w := EE.mk fun a F => by
  show LeavesInM Fence.wide 3 P fn a.tmps R a.defers .returning w
  rw [F.defers]
  exact retM0 F h h3 hR
/-- What is left of a world when the range's mark is taken. -/
def taken (E : Nat) (w : World) : World := w.putObj E (.deferred none)
theorem retM1 {a : Act} {vs : List Value} {E : Nat} (F : Fr n [mark E] M a) (hE : w.heap[E]? = some (.deferred (some []))) (h : resM M fn.results.toList = some vs) (h3 : Nat.ble vs.length 3 = true) (hR : R (.returned (resV vs)) (taken E w)) : LeavesInM Fence.wide 3 P fn a.tmps R a.defers .returning w := by
  rw [F.defers]
  refine ⟨by simp, .inl ⟨_, _, rfl, run_takeDeferred hE, ?_⟩⟩
  exact ⟨_, results_run (P := P) F h (by simpa using h3), hR⟩
/-- A return behind one range. -/
theorem EE.ret1 {E : Nat} (hE : w.heap[E]? = some (.deferred (some []))) (vs : List Value) (h : resM M fn.results.toList = some vs) (h3 : Nat.ble vs.length 3 = true) (hR : R (.returned (resV vs)) (taken E w)) : EE (calmP (bodyPostM Fence.wide 3 P fn R)) n [mark E] M .ret w := EE.mk fun a F => retM1 F hE h h3 hR
theorem EE.end1 {E : Nat} (hE : w.heap[E]? = some (.deferred (some []))) (vs : List Value) (h : resM M fn.results.toList = some vs) (h3 : Nat.ble vs.length 3 = true) (hR : R (.returned (resV vs)) (taken E w)) : EE (calmP (bodyPostM Fence.wide 3 P fn R)) n [mark E] M .normal w := EE.mk fun a F => retM1 F hE h h3 hR
theorem taken_bel {B E : Nat} {X W : World} (h : Below B X W) (hE : B ≤ E) (hs : B ≤ X.heap.size) : Below B X (taken E W) :=
  h.grown (grownBy_putObj' _ _ _) (Nat.le_trans hs h.size) (fun k e => by cases e; exact hE)
end

/-- The parameters of a round, laid into slots. -/
def psM (M : Slots) : List Tmp → List Value → Slots
  | p :: ps, v :: vs => psM (up M p v) ps vs
  | _, _ => M
theorem psM_fr {n : Nat} {D : List Deferred} : ∀ (ps : List Tmp) (vs : List Value) (M : Slots) (tm : Array Value) (d : List Deferred), Fr n D M ⟨tm, d⟩ → (ps.all fun p => Nat.blt p n) = true → Fr n D (psM M ps vs) ⟨(ps.zip vs).foldl (fun t (p, v) => t.setIfInBounds p v) tm, d⟩
  | [], _, M, tm, d, F, _ => by simpa [psM] using F
  | _ :: _, [], M, tm, d, F, _ => by simpa [psM] using F
  | p :: ps, v :: vs, M, tm, d, F, h => by
    simp only [List.all_cons, Bool.and_eq_true] at h
    have := F.put (some p) v h.1
    exact psM_fr ps vs _ _ d this h.2

section
variable {α : Type} {P : Program} {n : Nat} {D : List Deferred} {M : Slots}
/-- A range over a function, outermost, of which a round may break at most. -/
theorem CC.range {id gf : Nat} {Dk : Nat → Prop} {g : Operand} {ps : Array Tmp} {assign body : Code} {Q : Exit → Act → World → Prop} {w w0 : World} {lb : List Value} {encs : α → List Value} {S : List α → Prop}
    (hg : evM M g = some (.func (.func gf) #[] lb.toArray)) (eg : entB P gf = true) (hseq : Gives P gf lb.toArray (fun x => (encs x).toArray) Dk S w0) (hb : Below w0.heap.size w0 w) (hn : ∀ k, Dk k → k < w.heap.size) (hps : ∀ x, (encs x).length = ps.size) (hpn : (ps.toList.all fun p => Nat.blt p n) = true)
    (I Ix : Nat → List α → World → Prop) (A : World → Prop) (hI : ∀ m, Abides w.heap.size m (I m)) (hIx : ∀ m, Abides w.heap.size m (Ix m)) (h0 : ∀ m, I m [] w) (hIA : ∀ m xs W, S xs → I m xs W → A W) (hIxA : ∀ m pre W, Part S pre → Ix m pre W → A W)
    (Mx : α → Slots)
    (hassign : ∀ (l m : Nat) pre x W (K : Act → World → Prop), w.heap.size ≤ m → I m pre W → (∀ a' W', Stays w.heap.size m W W' → Keeps Dk W W' → I m pre W' → Fr n [] (Mx x) a' → K a' W') → CC (some l) P (Exit.then K (fun _ _ _ => False)) n [] (psM M ps.toList (encs x)) assign W)
    (hbody : ∀ (l m : Nat) pre x W, w.heap.size ≤ m → w.heap.size ≤ l → (∃ r, W.heap[l]? = some (.loop r)) → I m pre W → Part S (pre ++ [x]) → CC (some l) P (roundP w.heap.size m Dk I (fun c m pre W => c = .exit id ∧ Ix m pre W) (pre ++ [x]) W) n [] (Mx x) body W)
    (hafter : ∀ (E : Nat) W, w.heap.size ≤ E → A W → W.heap[E]? = some (.deferred (some [])) → EE Q n (mark E :: D) M .normal W) :
    CC none P (Exit.inBlock id Q) n D M (.rangeFunc g ps assign body) w := CC.mk fun a F => by
  refine range_break (gf := gf) (lb := lb.toArray) (F.ev hg) (ent_of eg) hseq hb hn (fun x => by simpa using hps x) I Ix A hI hIx h0 (fun x a' _ => Fr n [] (Mx x) a') (fun _ _ _ _ _ _ hs _ _ => hs) hIA hIxA ?_ ?_ ?_
  · intro l m pre x W K hm hi hK
    refine (hassign l m pre x W K hm hi fun a' W' h1 h2 h3 h4 => hK a' W' h1 h2 h3 h4).h _ ?_
    have F0 : Fr n [] M ⟨a.tmps, []⟩ := ⟨F.size, rfl, F.get⟩
    have := psM_fr ps.toList (encs x) M a.tmps [] F0 hpn
    have e : (ps.zip (encs x).toArray).foldl (fun t (p, v) => t.setIfInBounds p v) a.tmps = (ps.toList.zip (encs x)).foldl (fun t (p, v) => t.setIfInBounds p v) a.tmps := by
      obtain ⟨l⟩ := ps
      rw [← Array.foldl_toList]
      simp
    rw [e]
    exact this
  · intro l m pre x a' W hm hl hr hi hax hp
    exact (hbody l m pre x W hm hl hr hi hp).h a' hax
  · intro E W hE hA hd
    exact (hafter E W hE hA hd).h _ ⟨F.size, by rw [F.defers]; rfl, F.get⟩
theorem EE.thenK {K : Act → World → Prop} {Q : Exit → Act → World → Prop} {w : World} (h : ∀ a, Fr n D M a → K a w) : EE (Exit.then K Q) n D M .normal w := EE.mk fun a F => h a F
/-- A round's ends. -/
theorem EE.roundN {B m : Nat} {Dk : Nat → Prop} {I : Nat → List α → World → Prop} {Ix : Code → Nat → List α → World → Prop} {xs : List α} {W w : World} (h : Stays B m W w ∧ Keeps Dk W w ∧ I m xs w) : EE (roundP B m Dk I Ix xs W) n D M .normal w := EE.mk fun _ _ => h
theorem EE.roundX {B m id : Nat} {Dk : Nat → Prop} {I : Nat → List α → World → Prop} {Ix : Code → Nat → List α → World → Prop} {xs : List α} {W w : World} (h : Stays B m W w ∧ Ix (.exit id) m xs w) : EE (roundP B m Dk I Ix xs W) n D M (.exit id) w := EE.mk fun _ _ => h
theorem EE.roundR {B m : Nat} {Dk : Nat → Prop} {I : Nat → List α → World → Prop} {Ix : Code → Nat → List α → World → Prop} {xs : List α} {W w : World} (h : Stays B m W w ∧ Ix .ret m xs w) : EE (roundP B m Dk I Ix xs W) n D M .ret w := EE.mk fun _ _ => h

theorem roundWr {r : Option Nat} {m m' l : Nat} {f : FuncId} {tmps : Array Value} {assign body : Code} {w : World} {R : Ending → World → Prop} (h : RoundIn Fence.wide m P l f tmps assign body w R) : RoundIn (Wr r) m' P l f tmps assign body w R := ⟨trivial, fun c cs _ => h.2 c cs (room_wide _)⟩
/-- An iterator gives an element. -/
theorem LL.yield {r : Option Nat} {ops : Array Oper} {Q : Exit → Act → World → Prop} {rest : List Oper} {o : Oper} {w : World} {x : Operand} {xs : Array Operand} {ts : Array TypeId} {vs : List Value} {l : Nat} {R : Ending → World → Prop} (ho : o.op = .call { callee := .value x, args := xs, argTypes := ts }) (hf : evM M x = some (.func (.yield l) #[] #[])) (hx : evsM M xs.toList = some vs) (hd : dstB n o.dst = true) (hg : wantB ops M o.guard = some true)
    (hY : YieldAt Fence.wide 3 P l vs.toArray w R) (k : ∀ e w', R e w' → ∃ v, e = .returned v ∧ LL r P ops Q n D (putM M o.dst v) rest w') : LL r P ops Q n D M (o :: rest) w := LL.mk fun a F => by
  obtain ⟨fn, tmps, assign, body, hy, hR⟩ := hY
  refine wpListIn_step fun K hK => ?_
  rw [if_pos (F.want hg)]
  have hm := evs_mapA F hx
  refine wpIn_of_run (x := .round l fn tmps assign body) (w' := w) (by rw [ho]; rfl) ?_ ⟨fun h => (by cases h), roundWr (hR.mono fun e w' hR' => ?_)⟩
  · unfold execOp
    simp only [ho, resolve, F.ev hf, hm, Deferred.ofValue, invoke, Sem.run_bind, Sem.run_pure, Result.andThen_ok, Array.empty_append]
    exact hy
  · obtain ⟨v, rfl, hk⟩ := k e w' hR'
    exact hK _ _ (hk.h _ (F.put _ _ hd))
/-- An iterator's contract from its body's walk. -/
theorem X.iter {f : FuncId} {fn : Func} {c : Code} {args : Array Value} {w : World} {R : Ending → World → Prop} (hf : P.funcs[f]? = some fn) (hb : fn.body = some c) (hn : fn.ntmps = n) (ha : Nat.ble args.size n = true)
    (h : CC none P (bodyPost P fn R) n [] (argM args) c w) : Calls P f args w R := X.fn hf hb hn ha h
/-- A builtin copy into a row that is known. -/
theorem LL.copy {r : Option Nat} {ops : Array Oper} {Q : Exit → Act → World → Prop} {rest : List Oper} {o : Oper} {w : World} {xs : Array Operand} {dT sT e g off dl dc sl sc t : Nat} {p : Addr} {row cs : List Value} (ho : o.op = .call { callee := .builtin .copy, args := xs, argTypes := #[dT, sT] }) (hx : evsM M xs.toList = some [.slice (some ⟨g, off, none⟩) dl dc, .slice (some p) sl sc])
    (hz : slB P dT = some (e, 1)) (hr : RowL w g t row) (hcs : Cells w p cs) (hn : cs.length = Nat.min sl dl) (hfit : off + cs.length ≤ row.length) (h1 : ∀ v ∈ cs, v.oneCell' = true) (hd : dstB n o.dst = true) (hg : wantB ops M o.guard = some true)
    (k : ∀ w1, RowL w1 g t (row.take off ++ cs ++ row.drop (off + cs.length)) → w.grownBy w1 (some g) → w1.heap.size = w.heap.size → LL r P ops Q n D (putM M o.dst (.int .i64 (cs.length : Int))) rest w1) : LL r P ops Q n D M (o :: rest) w := by
  obtain ⟨hu, hz1⟩ := sl_of hz
  have hrun := run_copy_row (P := P) w dT sT o.type e g off dl dc p sl sc row.toArray t cs hu hz1 hr hn hcs (by simpa using hfit) h1
  refine LL.val (v := .int .i64 (cs.length : Int)) (R.builtin ho hx fun b => ?_) hd (by rw [ho]; rfl) hg (k _ (setRow_heap w g row.toArray _ t (0, 0) hr) (setRow_grown w g _) (by simp))
  unfold builtin
  simp only [Sem.run_bind, hrun, Result.andThen_ok, Sem.run_pure]
  rfl
end
end Go.Proofs.Ytajfffoaebjnlaa
