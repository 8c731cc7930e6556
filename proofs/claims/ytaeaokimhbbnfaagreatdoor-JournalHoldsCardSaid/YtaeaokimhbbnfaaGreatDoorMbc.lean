/- What the statements' walks use: ExM, Mesh, TNew, Ea, Arr, Eb, Ec, Ed, Ee, Wd6, EqA, Ef, Eg, Eh, Ex22, Ex23, Ex24, Ex25, Ex26, Ex29, Ex30, Ex31, Shelf, In1, In2, In3, V, Wd14, Zeros, CopyR, In4, In5, In6, FreeP, In7, Far. -/
import Derived.Deep.Upon
import Derived.Test.YtaeaokimhbbnfaaGreatDoorProg
import Derived.Laws.StructEq
import Derived.ChangeKeysEq
import Derived.WalkKit
import Derived.IntWalk
import Derived.Lib.Hide
import Derived.Deep.QuietTactic
import Derived.BigQuiet
import Derived.Shelf.Small.Strs
import Derived.Shelf.Strings.Search1
import Derived.Lib.AppendZerosOnto
import Derived.Test.YtaeaokimhbbnfaaGreatDoorMba
import Derived.Test.YtaeaokimhbbnfaaGreatDoorMbb
/- extents: maps, and the places that they say. -/
namespace Go.Proofs.YtaeaokimhbbnfaaGreatDoor
set_option linter.unusedVariables false
set_option linter.unusedSimpArgs false

/-- An extent: from which block of the file on, from which of the device on, how many. -/
abbrev Ex := Int × Int × Int
/-- A block of the file, and where it lies. -/
abbrev Bl := Int × Int
def mayE (x : Ex) : Prop := 0 ≤ x.1 ∧ 1 ≤ x.2.1 ∧ 1 ≤ x.2.2 ∧ x.2.2 ≤ 128 ∧ x.1 ≤ 128 - x.2.2 ∧ x.2.1 ≤ 2048 - x.2.2
def apartE (a b : Ex) : Prop := a.2.1 + a.2.2 ≤ b.2.1 ∨ b.2.1 + b.2.2 ≤ a.2.1
def followE (a b : Ex) : Prop := a.1 + a.2.2 ≤ b.1 ∧ ¬(b.1 = a.1 + a.2.2 ∧ b.2.1 = a.2.1 + a.2.2)
instance (x : Ex) : Decidable (mayE x) := by unfold mayE; infer_instance
instance (a b : Ex) : Decidable (apartE a b) := by unfold apartE; infer_instance
instance (a b : Ex) : Decidable (followE a b) := by unfold followE; infer_instance
/-- One follows the other. -/
def chE : List Ex → Prop
  | [] => True
  | [_] => True
  | a :: b :: t => followE a b ∧ chE (b :: t)
/-- Which lists are maps. -/
def vL (l : List Ex) : Prop := l.length ≤ 10 ∧ (∀ x ∈ l, mayE x) ∧ l.Pairwise apartE ∧ chE l
theorem chE_at : ∀ {l : List Ex}, chE l ↔ ∀ i y x, l[i]? = some y → l[i + 1]? = some x → followE y x
  | [] => by simp [chE]
  | [a] => by simp [chE]
  | a :: b :: t => by
    have ih := chE_at (l := b :: t)
    simp only [chE, ih]
    constructor
    · rintro ⟨h1, h2⟩ i y x hy hx
      cases i with
      | zero => simp only [List.getElem?_cons_zero, Option.some.injEq, List.getElem?_cons_succ, Nat.zero_add] at hy hx; subst hy; subst hx; exact h1
      | succ i => simp only [List.getElem?_cons_succ] at hy hx; exact h2 i y x hy (by simpa using hx)
    · intro h
      exact ⟨h 0 a b (by simp) (by simp), fun i y x hy hx => h (i + 1) y x (by simpa using hy) (by simpa using hx)⟩
/-- The blocks of an extent; of a list. -/
def blE (x : Ex) : List Bl := (List.range x.2.2.toNat).map fun i : Nat => (x.1 + (i : Int), x.2.1 + (i : Int))
def blS (l : List Ex) : List Bl := l.flatMap blE
/-- A list with a block more. -/
def mergeE (a : Ex) (b : Bl) : Prop := a.1 + a.2.2 = b.1 ∧ a.2.1 + a.2.2 = b.2
instance (a : Ex) (b : Bl) : Decidable (mergeE a b) := by unfold mergeE; infer_instance
def joinE (l : List Ex) (b : Bl) : List Ex := match l.getLast? with
  | some a => if mergeE a b then l.dropLast ++ [(a.1, a.2.1, a.2.2 + 1)] else l ++ [(b.1, b.2, 1)]
  | none => l ++ [(b.1, b.2, 1)]
def gat (s : List Bl) : List Ex := s.foldl joinE []
/-- In the bounds. -/
def inB (s : List Bl) : Prop := ∀ b ∈ s, 0 ≤ b.1 ∧ b.1 < 128 ∧ 1 ≤ b.2 ∧ b.2 < 2048
/-- No block lies twice. -/
def injB (s : List Bl) : Prop := ∀ b ∈ s, ∀ c ∈ s, b.2 = c.2 → b.1 = c.1
/-- What places say, of some first ones. -/
def nzF (p : List Int) (k : Nat) : List Bl := (List.range k).filterMap fun i : Nat => if (p[i]?).getD 0 = 0 then none else some ((i : Int), (p[i]?).getD 0)
def nz (p : List Int) : List Bl := nzF p 128
theorem mem_nzF {p : List Int} {k : Nat} {b : Bl} : b ∈ nzF p k ↔ ∃ i : Nat, i < k ∧ (p[i]?).getD 0 ≠ 0 ∧ b = ((i : Int), (p[i]?).getD 0) := by
  simp only [nzF, List.mem_filterMap, List.mem_range]
  constructor
  · rintro ⟨i, hi, h⟩
    by_cases hz : (p[i]?).getD 0 = 0
    · rw [if_pos hz] at h; cases h
    · rw [if_neg hz] at h; cases h; exact ⟨i, hi, hz, rfl⟩
  · rintro ⟨i, hi, hz, rfl⟩
    exact ⟨i, hi, by rw [if_neg hz]⟩
/-- Places with blocks set. -/
def setB (p : List Int) (b : Bl) : List Int := p.set b.1.toNat b.2
def plF (p : List Int) (s : List Bl) : List Int := s.foldl setB p
def plOf (s : List Bl) : List Int := plF (List.replicate 128 0) s
theorem plF_len : ∀ (s : List Bl) (p : List Int), (plF p s).length = p.length
  | [], _ => rfl
  | b :: s, p => by
    show (plF (setB p b) s).length = _
    rw [plF_len s]; simp [setB]
theorem plOf_len (s : List Bl) : (plOf s).length = 128 := by unfold plOf; rw [plF_len]; simp
/-- The places of a map. -/
def plL (l : List Ex) : List Int := plOf (blS l)
theorem plL_len (l : List Ex) : (plL l).length = 128 := plOf_len _
/-- Places that may be a map's. -/
structure okP (p : List Int) : Prop where
  len : p.length = 128
  bnd : inB (nz p)
  inj : injB (nz p)
theorem okP.at {p : List Int} (h : okP p) {i : Nat} {v : Int} (hv : p[i]? = some v) : 0 ≤ v ∧ v < 2048 := by
  by_cases hz : v = 0
  · omega
  have hi : i < 128 := by have := (List.getElem?_eq_some_iff.1 hv).1; have := h.len; omega
  have := h.bnd _ (mem_nzF.2 ⟨i, hi, by rw [hv]; exact hz, rfl⟩ : ((i : Int), (p[i]?).getD 0) ∈ nz p)
  rw [hv] at this
  simp only [Option.getD_some] at this
  omega
/-- Is a block in one of some runs? -/
def inR (l : List Bl) (d : Int) : Prop := ∃ r ∈ l, r.1 ≤ d ∧ d - r.1 < r.2
set_option linter.unusedVariables false
set_option linter.unusedSimpArgs false
open Go.RowKit Go.Shelf
def dstO (ops : Array Oper) (i : Nat) : Option Nat := (ops[i]?).bind (·.dst)
def depB (ops : Array Oper) (i j : Nat) : Bool := match ops[i]? with
  | some o => o.after.any fun e => Region.binds .any e && Nat.beq e.on j
  | none => false
def AtD (d : Option Nat) (a : Act) (v : Value) : Prop := ∀ s, d = some s → a.tmps.getD s undef = v
/-- One step: what it needs of the others, what it makes. -/
structure MS (P : Program) (ops : Array Oper) (ok : World → Prop) (acts : List Nat) (φ : Nat → Value → World → Prop) (i : Nat) (R : Value → World → Prop) (n : Nat) (D : List Deferred) (M : Slots) (w : World) : Prop where
  h : ∀ a o, ops[i]? = some o → Fr n D M a → (∀ j ∈ acts, depB ops i j = true → ∃ v, AtD (dstO ops j) a v ∧ φ j v w) → ∀ K : Act → World → Prop, (∀ v w', ok w' → R v w' → K (a.put o.dst v) w') → stepR P ops ok i K a w
section
variable {P : Program} {ops : Array Oper} {Q : Exit → Act → World → Prop} {ok : World → Prop} {acts : List Nat} {φ : Nat → Value → World → Prop} {n i : Nat} {D : List Deferred} {M : Slots} {w w' : World} {o : Oper} {v : Value} {R : Value → World → Prop}
theorem Fr.more {a : Act} (F : Fr n D M a) {d : Nat} (h : a.tmps.getD d undef = v) : Fr n D (up M d v) a := ⟨F.size, F.defers, fun s u hs => by
  simp only [up] at hs
  by_cases e : s = d
  · subst e; rw [Nat.beq_refl] at hs; cases hs; exact h
  · rw [beq_ne e] at hs; exact F.get s u hs⟩
theorem MS.val (hi : ops[i]? = some o) (hr : Runs P n D M o w (.value v) w') (hg : wantB ops M o.guard = some true) (hok : ok w') (h : R v w') : MS P ops ok acts φ i R n D M w := MS.mk fun a o' ho F _ K hK => by
  obtain rfl : o = o' := Option.some.inj (hi.symm.trans ho)
  unfold stepR
  simp only [hi]
  rw [if_pos (F.want hg)]
  exact .inl ⟨v, w', hr a F, hok, hK _ _ hok h⟩
theorem MS.call {g : FuncId} {args : Array Value} {R' : Ending → World → Prop} (hi : ops[i]? = some o) (hr : Runs P n D M o w (.enter g args) w) (hg : wantB ops M o.guard = some true) (hc : Calls P g args w R') (k : ∀ e w'', R' e w'' → ∃ v, e = .returned v ∧ ok w'' ∧ R v w'') : MS P ops ok acts φ i R n D M w := MS.mk fun a o' ho F _ K hK => by
  obtain rfl : o = o' := Option.some.inj (hi.symm.trans ho)
  unfold stepR
  simp only [hi]
  rw [if_pos (F.want hg)]
  exact .inr (.inr ⟨g, args, w, R', hr a F, hc, fun e w'' hR => by
    obtain ⟨v, he, h1, h2⟩ := k e w'' hR
    exact ⟨v, he, h1, hK _ _ h1 h2⟩⟩)
end
set_option linter.unusedVariables false
set_option linter.unusedSimpArgs false
section
variable {α : Type} {enc : α → List Value} {k : Nat} {P : Program} {T e : TypeId} {z : Value} {bytes : Nat}
end
section
variable {α : Type} {enc : α → List Value} {k : Nat} {P : Program} {ops : Array Oper} {Q : Exit → Act → World → Prop} {ok : World → Prop} {acts : List Nat} {φ : Nat → Value → World → Prop} {n i f : Nat} {D : List Deferred} {M : Slots} {w w' : World} {o : Oper} {v : Value} {Rv : Value → World → Prop} {T e t : TypeId} {z : Value} {bytes : Nat} {listed listed1 : Array Bool} {K : Slots → World → Prop} {r : Option Nat} {rest : List Oper}
theorem MS.lit {ps : Array (Nat × Operand)} {m : Nat} {vs : List (Nat × Value)} (cs : List Value) (len : Nat) (hi : ops[i]? = some o) (ho : o.op = .buildSlice t m ps) (hx : evpM M ps.toList = some vs) (hr : ∀ w, (Instr.buildSlice t m vs.toArray).run P w = .ok (.slice (some ⟨w.heap.size, 0, none⟩) len len) (w.alloc (.cells cs.toArray e))) (hg : wantB ops M o.guard = some true)
    (c : ∀ w1 g, g = w.heap.size → RowL w1 g e cs → Below w.heap.size w w1 → ok w1 ∧ Rv (.slice (some ⟨g, 0, none⟩) len len) w1) : MS P ops ok acts φ i Rv n D M w :=
  have h := c _ _ rfl (RowL.new w e cs) (Below.alloc0 w _)
  MS.val hi (R.buildSlice ho hx (hr w)) hg h.1 h.2
theorem AA.weak {L : List (Nat × Value)} (h : AA P ops ok Q n D (sl L) f listed1 w) (hL : Fits M L) (he : listed1 = listed) : AA P ops ok Q n D M f listed w := by
  subst he; exact AA.mk fun a F => h.h a (F.keep L hL)
theorem SR.lit {ps : Array (Nat × Operand)} {m : Nat} {vs : List (Nat × Value)} (cs : List Value) (len : Nat) (hi : ops[i]? = some o) (ho : o.op = .buildSlice t m ps) (hx : evpM M ps.toList = some vs) (hr : ∀ w, (Instr.buildSlice t m vs.toArray).run P w = .ok (.slice (some ⟨w.heap.size, 0, none⟩) len len) (w.alloc (.cells cs.toArray e))) (hd : dstB n o.dst = true) (hg : wantB ops M o.guard = some true)
    (c : ∀ w1 g, g = w.heap.size → RowL w1 g e cs → Below w.heap.size w w1 → ok w1 ∧ K (putM M o.dst (.slice (some ⟨g, 0, none⟩) len len)) w1) : SR P ops ok i K n D M w :=
  have h := c _ _ rfl (RowL.new w e cs) (Below.alloc0 w _)
  SR.val hi (R.buildSlice ho hx (hr w)) hd hg h.1 h.2
theorem SR.appendT2 {xs : Array Operand} {vx : Value} {base : Nat} {ts us : List α} (hi : ops[i]? = some o) (ho : o.op = .call { callee := .builtin .append, args := xs, argTypes := #[T, T] }) (hx : evsM M xs.toList = some [v, vx]) (E : Enc enc k) (I : ElT P T e z k bytes) (hown : OwnsT enc k w base e v ts) (hr : ReadsT enc k w vx us)
    (h63 : ts.length + us.length ≤ maxLen) (hb : (ts.length + us.length) * bytes ≤ 140737488355328) (hbase : base ≤ w.heap.size) (hd : dstB n o.dst = true) (hg : wantB ops M o.guard = some true)
    (c : ∀ v' w', OwnsT enc k w' base e v' (ts ++ us) → w.grownBy w' v.ownBlock → (v'.ownBlock = v.ownBlock ∨ ∃ b, v'.ownBlock = some b ∧ w.heap.size ≤ b) → ok w' ∧ K (putM M o.dst v') w') : SR P ops ok i K n D M w := by
  obtain ⟨v', w', h1, h2, h3, h4⟩ := run_append_t2 E I o.type hown hr h63 hb hbase
  have h := c v' w' h2 h3 h4
  refine SR.val (v := v') hi (R.builtin ho hx fun b => ?_) hd hg h.1 h.2
  unfold builtin
  simp only [Sem.run_bind, h1, Result.andThen_ok, Sem.run_pure]
/-- A store of one cell into a row that is known, as a step of a drawn region. -/
theorem SR.store {x y : Operand} {g off e : Nat} {xs : List Value} (hi : ops[i]? = some o) (ho : o.op = .store t x y) (hx : evM M x = some (.pointer (some ⟨g, off, none⟩))) (hy : evM M y = some v) (hz : szB P t = some 1) (hr : RowL w g e xs) (hl : off < xs.length) (h1 : v.oneCell' = true) (hcs : v.cells = #[v]) (hd : o.dst = none) (hg : wantB ops M o.guard = some true)
    (c : ∀ w1, RowL w1 g e (xs.set off v) → w.grownBy w1 (some g) → w1.heap.size = w.heap.size → ok w1 ∧ K M w1) : SR P ops ok i K n D M w := SR.mk fun K' hK a F => by
  have h := c _ (hr.set off v) (grown_set w _ v) (by simp [World.setCell])
  unfold stepR
  simp only [hi]
  rw [if_pos (F.want hg)]
  refine .inr (.inl ⟨_, R.store ho hx hy (I.st1R hz hr hl h1 hcs) a F, h.1, ?_⟩)
  rw [hd]
  exact hK _ _ h.2 _ F
end
set_option maxRecDepth 100000
set_option maxHeartbeats 8000000
theorem info_parts_t {P : Program} {T e : TypeId} {z : Value} {k bytes : Nat} (hu : P.underlying T = some (.slice e)) (h : (P.info? e).map (fun i => (i.zero, i.size, i.bytes)) = some (some z, k, bytes)) (hz : z.cells.size = k) : ElT P T e z k bytes := by
  refine ⟨hu, ?_, hz⟩
  cases hi : P.info? e with
  | none => rw [hi] at h; cases h
  | some i =>
    rw [hi] at h
    simp only [Option.map_some, Option.some.injEq, Prod.mk.injEq] at h
    exact ⟨i, rfl, h.1, h.2.1, h.2.2⟩
def eE (x : Ex) : List Value := [.int .i64 x.1, .int .i64 x.2.1, .int .i64 x.2.2]
abbrev exV (x : Ex) : Value := .agg #[.int .i64 x.1, .int .i64 x.2.1, .int .i64 x.2.2]
theorem eEnc : Enc eE 3 := ⟨fun _ => rfl, fun t u hu => by
  simp only [eE, List.mem_cons, List.not_mem_nil, or_false] at hu
  rcases hu with rfl | rfl | rfl <;> rfl, by decide⟩
theorem Tryz.infoEx : (Tryz.prog.info? 124).map (fun i => (i.zero, i.size, i.bytes)) = some (some (.agg #[.int .i64 0, .int .i64 0, .int .i64 0]), 3, 24) := by kernel_rfl
theorem ElEx : ElT Tryz.prog 78 124 (.agg #[.int .i64 0, .int .i64 0, .int .i64 0]) 3 24 := info_parts_t Tryz.underlying78 Tryz.infoEx rfl
def f1E (x : Ex) : Prop := x.1 < 0 ∨ x.2.1 < 1 ∨ x.2.2 < 1
def f2E (x : Ex) : Prop := x.2.2 > 128 ∨ x.1 > 128 - x.2.2
def f3E (x : Ex) : Prop := x.2.1 > 2048 - x.2.2
instance (x : Ex) : Decidable (f1E x) := by unfold f1E; infer_instance
instance (x : Ex) : Decidable (f2E x) := by unfold f2E; infer_instance
instance (x : Ex) : Decidable (f3E x) := by unfold f3E; infer_instance
set_option maxRecDepth 100000 in
theorem faults1_any (x : Ex) (w : World) : Calls Tryz.prog 154 #[exV x] w fun e w' => e = .returned (.bool (decide (f1E x))) ∧ Below w.heap.size w w' := by
  have q := Below.refl w.heap.size w
  by_cases h1 : x.1 < 0
  · rw [decide_eq_true (by unfold f1E; omega)]
    refine X.fn Tryz.func154 rfl (n := 16) rfl rfl ?_
    refine Zr ?_
    refine LL.box [.int .i64 x.1, .int .i64 x.2.1, .int .i64 x.2.2] rfl rfl rfl rfl rfl ?_
    intro W2 g3 eg3 r4 z5 b1
    replace q := Zu q b1; refine Za ?_; refine Zq ?_; refine Zr ?_; refine Zf ?_; refine Zl r4 ?_; refine ZltT ?_; refine Zm ?_; refine Zs ?_; refine Zs ?_; refine Zs ?_; refine Zp ?_; refine Zm ?_; refine Zs ?_; refine Zs ?_; refine Zs ?_; refine Zp ?_; refine Za ?_; refine Zq ?_; refine ZR ?_; refine EE.ret _ rfl rfl ?_
    exact ⟨rfl, q⟩
  by_cases h2 : x.2.1 < 1
  · rw [decide_eq_true (by unfold f1E; omega)]
    refine X.fn Tryz.func154 rfl (n := 16) rfl rfl ?_
    refine Zr ?_
    refine LL.box [.int .i64 x.1, .int .i64 x.2.1, .int .i64 x.2.2] rfl rfl rfl rfl rfl ?_
    intro Wa2 ga3 ega3 ra4 za5 ba1
    replace q := Zu q ba1; refine Za ?_; refine Zq ?_; refine Zr ?_; refine Zf ?_; refine Zl ra4 ?_; refine ZltF ?_; refine Zm ?_; refine Zf ?_; refine Zl ra4 ?_; refine ZltT ?_; refine Zp ?_; refine Zm ?_; refine Zs ?_; refine Zs ?_; refine Zs ?_; refine Zp ?_; refine Za ?_; refine Zq ?_; refine ZR ?_; refine EE.ret _ rfl rfl ?_
    exact ⟨rfl, q⟩
  by_cases h3 : x.2.2 < 1
  · rw [decide_eq_true (by unfold f1E; omega)]
    refine X.fn Tryz.func154 rfl (n := 16) rfl rfl ?_
    refine Zr ?_
    refine LL.box [.int .i64 x.1, .int .i64 x.2.1, .int .i64 x.2.2] rfl rfl rfl rfl rfl ?_
    intro Wb2 gb3 egb3 rb4 zb5 bb1
    replace q := Zu q bb1; refine Za ?_; refine Zq ?_; refine Zr ?_; refine Zf ?_; refine Zl rb4 ?_; refine ZltF ?_; refine Zm ?_; refine Zf ?_; refine Zl rb4 ?_; refine ZltF ?_; refine Zp ?_; refine Zm ?_; refine Zf ?_; refine Zl rb4 ?_; refine ZltT ?_; refine Zp ?_; refine Za ?_; refine Zq ?_; refine ZR ?_; refine EE.ret _ rfl rfl ?_
    exact ⟨rfl, q⟩
  · rw [decide_eq_false (by unfold f1E; omega)]
    refine X.fn Tryz.func154 rfl (n := 16) rfl rfl ?_
    refine Zr ?_
    refine LL.box [.int .i64 x.1, .int .i64 x.2.1, .int .i64 x.2.2] rfl rfl rfl rfl rfl ?_
    intro Wc2 gc3 egc3 rc4 zc5 bc1
    replace q := Zu q bc1; refine Za ?_; refine Zq ?_; refine Zr ?_; refine Zf ?_; refine Zl rc4 ?_; refine ZltF ?_; refine Zm ?_; refine Zf ?_; refine Zl rc4 ?_; refine ZltF ?_; refine Zp ?_; refine Zm ?_; refine Zf ?_; refine Zl rc4 ?_; refine ZltF ?_; refine Zp ?_; refine Za ?_; refine Zq ?_; refine ZR ?_; refine EE.ret _ rfl rfl ?_
    exact ⟨rfl, q⟩
set_option maxRecDepth 100000 in
theorem faults2_any (x : Ex) (w : World) (hs : 1 ≤ x.2.2) : Calls Tryz.prog 155 #[exV x] w fun e w' => e = .returned (.bool (decide (f2E x))) ∧ Below w.heap.size w w' := by
  have q := Below.refl w.heap.size w
  by_cases h1 : x.2.2 > 128
  · rw [decide_eq_true (by unfold f2E; omega)]
    refine X.fn Tryz.func155 rfl (n := 14) rfl rfl ?_
    refine Zr ?_
    refine LL.box [.int .i64 x.1, .int .i64 x.2.1, .int .i64 x.2.2] rfl rfl rfl rfl rfl ?_
    intro W2 g3 eg3 r4 z5 b1
    replace q := Zu q b1; refine Za ?_; refine Zq ?_; refine Zr ?_; refine Zf ?_; refine Zl r4 ?_; refine ZgtT ?_; refine Zm ?_; refine Zs ?_; refine Zs ?_; refine Zs ?_; refine Zs ?_; refine Zs ?_; refine Zs ?_; refine Zp ?_; refine Za ?_; refine Zq ?_; refine ZR ?_; refine EE.ret _ rfl rfl ?_
    exact ⟨rfl, q⟩
  by_cases h2 : x.1 > 128 - x.2.2
  · rw [decide_eq_true (by unfold f2E; omega)]
    refine X.fn Tryz.func155 rfl (n := 14) rfl rfl ?_
    refine Zr ?_
    refine LL.box [.int .i64 x.1, .int .i64 x.2.1, .int .i64 x.2.2] rfl rfl rfl rfl rfl ?_
    intro Wa2 ga3 ega3 ra4 za5 ba1
    replace q := Zu q ba1; refine Za ?_; refine Zq ?_; refine Zr ?_; refine Zf ?_; refine Zl ra4 ?_; refine ZgtF ?_; refine Zm ?_; refine Zf ?_; refine Zl ra4 ?_; refine Zf ?_; refine Zl ra4 ?_
    refine LL.val (R.subI rfl rfl rfl (by omega)) rfl rfl rfl ?_
    refine ZgtT ?_; refine Zp ?_; refine Za ?_; refine Zq ?_; refine ZR ?_; refine EE.ret _ rfl rfl ?_
    exact ⟨rfl, q⟩
  · rw [decide_eq_false (by unfold f2E; omega)]
    refine X.fn Tryz.func155 rfl (n := 14) rfl rfl ?_
    refine Zr ?_
    refine LL.box [.int .i64 x.1, .int .i64 x.2.1, .int .i64 x.2.2] rfl rfl rfl rfl rfl ?_
    intro Wb2 gb3 egb3 rb4 zb5 bb1
    replace q := Zu q bb1; refine Za ?_; refine Zq ?_; refine Zr ?_; refine Zf ?_; refine Zl rb4 ?_; refine ZgtF ?_; refine Zm ?_; refine Zf ?_; refine Zl rb4 ?_; refine Zf ?_; refine Zl rb4 ?_
    refine LL.val (R.subI rfl rfl rfl (by omega)) rfl rfl rfl ?_
    refine ZgtF ?_; refine Zp ?_; refine Za ?_; refine Zq ?_; refine ZR ?_; refine EE.ret _ rfl rfl ?_
    exact ⟨rfl, q⟩
set_option maxRecDepth 100000 in
theorem faults3_any (x : Ex) (w : World) (hs : 1 ≤ x.2.2) (h : x.2.2 ≤ 128) : Calls Tryz.prog 156 #[exV x] w fun e w' => e = .returned (.bool (decide (f3E x))) ∧ Below w.heap.size w w' := by
  have q := Below.refl w.heap.size w
  by_cases h1 : x.2.1 > 2048 - x.2.2
  · rw [decide_eq_true (by unfold f3E; omega)]
    refine X.fn Tryz.func156 rfl (n := 9) rfl rfl ?_
    refine Zr ?_
    refine LL.box [.int .i64 x.1, .int .i64 x.2.1, .int .i64 x.2.2] rfl rfl rfl rfl rfl ?_
    intro W2 g3 eg3 r4 z5 b1
    replace q := Zu q b1; refine Za ?_; refine Zq ?_; refine Zr ?_; refine Zf ?_; refine Zl r4 ?_; refine Zf ?_; refine Zl r4 ?_
    refine LL.val (R.subI rfl rfl rfl (by omega)) rfl rfl rfl ?_
    refine ZgtT ?_; refine Za ?_; refine Zq ?_; refine ZR ?_; refine EE.ret _ rfl rfl ?_
    exact ⟨rfl, q⟩
  · rw [decide_eq_false (by unfold f3E; omega)]
    refine X.fn Tryz.func156 rfl (n := 9) rfl rfl ?_
    refine Zr ?_
    refine LL.box [.int .i64 x.1, .int .i64 x.2.1, .int .i64 x.2.2] rfl rfl rfl rfl rfl ?_
    intro Wa2 ga3 ega3 ra4 za5 ba1
    replace q := Zu q ba1; refine Za ?_; refine Zq ?_; refine Zr ?_; refine Zf ?_; refine Zl ra4 ?_; refine Zf ?_; refine Zl ra4 ?_
    refine LL.val (R.subI rfl rfl rfl (by omega)) rfl rfl rfl ?_
    refine ZgtF ?_; refine Za ?_; refine Zq ?_; refine ZR ?_; refine EE.ret _ rfl rfl ?_
    exact ⟨rfl, q⟩
set_option maxRecDepth 100000 in
theorem faults_any (w : World) : Calls Tryz.prog 152 #[] w fun e w' => ∃ g, e = .returned (.slice (some ⟨g, 0, none⟩) 3 3) ∧ RowL w' g 153 [.func (.func 154) #[] #[], .func (.func 155) #[] #[], .func (.func 156) #[] #[]] ∧ w.heap.size ≤ g ∧ Below w.heap.size w w' := by
  have q := Below.refl w.heap.size w
  refine X.fn Tryz.func152 rfl (n := 2) rfl rfl ?_
  refine Zr ?_; refine Za ?_; refine Zq ?_; refine Zr ?_
  refine LL.lit (e := 153) [Value.func (Fn.func 154) #[] #[], Value.func (Fn.func 155) #[] #[], Value.func (Fn.func 156) #[] #[]] 3 rfl rfl (fun _ => by kernel_rfl) rfl rfl ?_
  intro W2 g3 eg3 r4 z5 b1
  replace q := Zu q b1; refine Za ?_; refine Zq ?_; refine ZR ?_; refine EE.ret _ rfl rfl ?_
  exact ⟨_, rfl, by assumption, by omega, q⟩
set_option maxRecDepth 100000 in
theorem apart_any (x y : Ex) (w : World) (hx : mayE x) (hy : mayE y) : Calls Tryz.prog 144 #[exV x, exV y] w fun e w' => e = .returned (.bool (decide (apartE x y))) ∧ Below w.heap.size w w' := by
  have q := Below.refl w.heap.size w
  unfold mayE at hx hy
  by_cases h1 : x.2.1 + x.2.2 ≤ y.2.1
  · rw [decide_eq_true (by unfold apartE; omega)]
    refine X.fn Tryz.func144 rfl (n := 23) rfl rfl ?_
    refine Zr ?_
    refine LL.box [.int .i64 x.1, .int .i64 x.2.1, .int .i64 x.2.2] rfl rfl rfl rfl rfl ?_
    intro W2 g3 eg3 r4 z5 b1
    replace q := Zu q b1; have l6 := r4.lt
    refine LL.box [.int .i64 y.1, .int .i64 y.2.1, .int .i64 y.2.2] rfl rfl rfl rfl rfl ?_
    intro W8 g9 eg9 r10 z11 b7
    replace r4 := r4.up b7; replace q := Zu q b7; refine Za ?_; refine Zq ?_; refine Zr ?_; refine Zf ?_; refine Zl r4 ?_; refine Zf ?_; refine Zl r4 ?_
    refine LL.val (R.addI rfl rfl rfl (by omega)) rfl rfl rfl ?_
    refine Zf ?_; refine Zl r10 ?_; refine ZleT ?_; refine Zm ?_; refine Zs ?_; refine Zs ?_; refine Zs ?_; refine Zs ?_; refine Zs ?_; refine Zs ?_; refine Zs ?_; refine Zs ?_; refine Zp ?_; refine Za ?_; refine Zq ?_; refine ZR ?_; refine EE.ret _ rfl rfl ?_
    exact ⟨rfl, q⟩
  by_cases h2 : y.2.1 + y.2.2 ≤ x.2.1
  · rw [decide_eq_true (by unfold apartE; omega)]
    refine X.fn Tryz.func144 rfl (n := 23) rfl rfl ?_
    refine Zr ?_
    refine LL.box [.int .i64 x.1, .int .i64 x.2.1, .int .i64 x.2.2] rfl rfl rfl rfl rfl ?_
    intro Wa2 ga3 ega3 ra4 za5 ba1
    replace q := Zu q ba1; have la6 := ra4.lt
    refine LL.box [.int .i64 y.1, .int .i64 y.2.1, .int .i64 y.2.2] rfl rfl rfl rfl rfl ?_
    intro Wa8 ga9 ega9 ra10 za11 ba7
    replace ra4 := ra4.up ba7; replace q := Zu q ba7; refine Za ?_; refine Zq ?_; refine Zr ?_; refine Zf ?_; refine Zl ra4 ?_; refine Zf ?_; refine Zl ra4 ?_
    refine LL.val (R.addI rfl rfl rfl (by omega)) rfl rfl rfl ?_
    refine Zf ?_; refine Zl ra10 ?_; refine ZleF ?_; refine Zm ?_; refine Zf ?_; refine Zl ra10 ?_; refine Zf ?_; refine Zl ra10 ?_
    refine LL.val (R.addI rfl rfl rfl (by omega)) rfl rfl rfl ?_
    refine Zf ?_; refine Zl ra4 ?_; refine ZleT ?_; refine Zp ?_; refine Za ?_; refine Zq ?_; refine ZR ?_; refine EE.ret _ rfl rfl ?_
    exact ⟨rfl, q⟩
  · rw [decide_eq_false (by unfold apartE; omega)]
    refine X.fn Tryz.func144 rfl (n := 23) rfl rfl ?_
    refine Zr ?_
    refine LL.box [.int .i64 x.1, .int .i64 x.2.1, .int .i64 x.2.2] rfl rfl rfl rfl rfl ?_
    intro Wb2 gb3 egb3 rb4 zb5 bb1
    replace q := Zu q bb1; have lb6 := rb4.lt
    refine LL.box [.int .i64 y.1, .int .i64 y.2.1, .int .i64 y.2.2] rfl rfl rfl rfl rfl ?_
    intro Wb8 gb9 egb9 rb10 zb11 bb7
    replace rb4 := rb4.up bb7; replace q := Zu q bb7; refine Za ?_; refine Zq ?_; refine Zr ?_; refine Zf ?_; refine Zl rb4 ?_; refine Zf ?_; refine Zl rb4 ?_
    refine LL.val (R.addI rfl rfl rfl (by omega)) rfl rfl rfl ?_
    refine Zf ?_; refine Zl rb10 ?_; refine ZleF ?_; refine Zm ?_; refine Zf ?_; refine Zl rb10 ?_; refine Zf ?_; refine Zl rb10 ?_
    refine LL.val (R.addI rfl rfl rfl (by omega)) rfl rfl rfl ?_
    refine Zf ?_; refine Zl rb4 ?_; refine ZleF ?_; refine Zp ?_; refine Za ?_; refine Zq ?_; refine ZR ?_; refine EE.ret _ rfl rfl ?_
    exact ⟨rfl, q⟩
set_option maxRecDepth 100000 in
theorem follow_any (x y : Ex) (w : World) (hx : mayE x) (hy : mayE y) : Calls Tryz.prog 145 #[exV x, exV y] w fun e w' => e = .returned (.bool (decide (followE x y))) ∧ Below w.heap.size w w' := by
  have q := Below.refl w.heap.size w
  unfold mayE at hx hy
  by_cases h1 : x.1 + x.2.2 ≤ y.1
  case neg =>
    rw [decide_eq_false (by unfold followE; omega)]
    refine X.fn Tryz.func145 rfl (n := 29) rfl rfl ?_
    refine Zr ?_
    refine LL.box [.int .i64 x.1, .int .i64 x.2.1, .int .i64 x.2.2] rfl rfl rfl rfl rfl ?_
    intro W2 g3 eg3 r4 z5 b1
    replace q := Zu q b1; have l6 := r4.lt
    refine LL.box [.int .i64 y.1, .int .i64 y.2.1, .int .i64 y.2.2] rfl rfl rfl rfl rfl ?_
    intro W8 g9 eg9 r10 z11 b7
    replace r4 := r4.up b7; replace q := Zu q b7; refine Za ?_; refine Zq ?_; refine Zr ?_; refine Zf ?_; refine Zl r4 ?_; refine Zf ?_; refine Zl r4 ?_
    refine LL.val (R.addI rfl rfl rfl (by omega)) rfl rfl rfl ?_
    refine Zf ?_; refine Zl r4 ?_; refine Zf ?_; refine Zl r4 ?_
    refine LL.val (R.addI rfl rfl rfl (by omega)) rfl rfl rfl ?_
    refine Zf ?_; refine Zl r10 ?_
    refine LL.val (R.buildV rfl rfl (v := .agg #[Value.int IntKind.i64 (x.1 + x.2.2), Value.int IntKind.i64 (x.2.1 + x.2.2), Value.int IntKind.i64 y.2.2]) (fun _ => by kernel_rfl)) rfl rfl rfl ?_
    have l12 := r10.lt; have l13 := r4.lt
    refine LL.alloc ([.int .i64 0, .int .i64 0, .int .i64 0]) rfl rfl rfl rfl rfl ?_
    intro W15 g16 eg16 r17 z18 b14
    replace r10 := r10.up b14; replace r4 := r4.up b14; replace q := Zu q b14
    refine LL.storeN (vs := [.int .i64 (x.1 + x.2.2), .int .i64 (x.2.1 + x.2.2), .int .i64 y.2.2]) rfl rfl rfl rfl r17 (by exact Nat.le_of_ble_eq_true rfl) (ones_of rfl) rfl rfl ?_
    intro W20 r21 b19 z22
    have hlb19 := r17.lt
    replace r21 : RowL W20 _ 124 [.int .i64 (x.1 + x.2.2), .int .i64 (x.2.1 + x.2.2), .int .i64 y.2.2] := r21
    clear r17
    replace r10 := Zd r10 b19; replace r4 := Zd r4 b19; replace q := Zg q b19
    have r17 := r21
    clear r21
    refine Zq ?_; refine Zr ?_; refine Zf ?_; refine Zl r10 ?_; refine Zf ?_; refine Zl r17 ?_; refine ZgeF ?_; refine Zm ?_; refine Zs ?_; refine Zs ?_; refine Zs ?_; refine Zp ?_; refine Za ?_; refine Zq ?_; refine ZR ?_; refine EE.ret _ rfl rfl ?_
    exact ⟨rfl, q⟩
  by_cases h2 : y.1 = x.1 + x.2.2 ∧ y.2.1 = x.2.1 + x.2.2
  · rw [decide_eq_false (by unfold followE; omega)]
    refine X.fn Tryz.func145 rfl (n := 29) rfl rfl ?_
    refine Zr ?_
    refine LL.box [.int .i64 x.1, .int .i64 x.2.1, .int .i64 x.2.2] rfl rfl rfl rfl rfl ?_
    intro Wa2 ga3 ega3 ra4 za5 ba1
    replace q := Zu q ba1; have la6 := ra4.lt
    refine LL.box [.int .i64 y.1, .int .i64 y.2.1, .int .i64 y.2.2] rfl rfl rfl rfl rfl ?_
    intro Wa8 ga9 ega9 ra10 za11 ba7
    replace ra4 := ra4.up ba7; replace q := Zu q ba7; refine Za ?_; refine Zq ?_; refine Zr ?_; refine Zf ?_; refine Zl ra4 ?_; refine Zf ?_; refine Zl ra4 ?_
    refine LL.val (R.addI rfl rfl rfl (by omega)) rfl rfl rfl ?_
    refine Zf ?_; refine Zl ra4 ?_; refine Zf ?_; refine Zl ra4 ?_
    refine LL.val (R.addI rfl rfl rfl (by omega)) rfl rfl rfl ?_
    refine Zf ?_; refine Zl ra10 ?_
    refine LL.val (R.buildV rfl rfl (v := .agg #[Value.int IntKind.i64 (x.1 + x.2.2), Value.int IntKind.i64 (x.2.1 + x.2.2), Value.int IntKind.i64 y.2.2]) (fun _ => by kernel_rfl)) rfl rfl rfl ?_
    have la12 := ra10.lt; have la13 := ra4.lt
    refine LL.alloc ([.int .i64 0, .int .i64 0, .int .i64 0]) rfl rfl rfl rfl rfl ?_
    intro Wa15 ga16 ega16 ra17 za18 ba14
    replace ra10 := ra10.up ba14; replace ra4 := ra4.up ba14; replace q := Zu q ba14
    refine LL.storeN (vs := [.int .i64 (x.1 + x.2.2), .int .i64 (x.2.1 + x.2.2), .int .i64 y.2.2]) rfl rfl rfl rfl ra17 (by exact Nat.le_of_ble_eq_true rfl) (ones_of rfl) rfl rfl ?_
    intro Wa20 ra21 ba19 za22
    have hlba19 := ra17.lt
    replace ra21 : RowL Wa20 _ 124 [.int .i64 (x.1 + x.2.2), .int .i64 (x.2.1 + x.2.2), .int .i64 y.2.2] := ra21
    clear ra17
    replace ra10 := Zd ra10 ba19; replace ra4 := Zd ra4 ba19; replace q := Zg q ba19
    have ra17 := ra21
    clear ra21
    refine Zq ?_; refine Zr ?_; refine Zf ?_; refine Zl ra10 ?_; refine Zf ?_; refine Zl ra17 ?_; refine ZgeT ?_; refine Zm ?_; refine Zv ra10 ?_; refine Zv ra17 ?_
    refine LL.val (R.neST (p := (y.1 : Int) = x.1 + x.2.2 ∧ (y.2.1 : Int) = x.2.1 + x.2.2 ∧ (y.2.2 : Int) = y.2.2) (bs := [decide ((y.1 : Int) = x.1 + x.2.2), decide ((y.2.1 : Int) = x.2.1 + x.2.2), decide ((y.2.2 : Int) = y.2.2)]) rfl rfl rfl rfl (by kernel_rfl) (by kernel_rfl) (by simp) (by first | assumption | omega | exact ⟨rfl, rfl⟩ | exact fun h => h ⟨rfl, rfl⟩)) rfl rfl rfl ?_
    refine Zp ?_; refine Za ?_; refine Zq ?_; refine ZR ?_; refine EE.ret _ rfl rfl ?_
    exact ⟨rfl, q⟩
  · rw [decide_eq_true (by unfold followE; omega)]
    refine X.fn Tryz.func145 rfl (n := 29) rfl rfl ?_
    refine Zr ?_
    refine LL.box [.int .i64 x.1, .int .i64 x.2.1, .int .i64 x.2.2] rfl rfl rfl rfl rfl ?_
    intro Wb2 gb3 egb3 rb4 zb5 bb1
    replace q := Zu q bb1; have lb6 := rb4.lt
    refine LL.box [.int .i64 y.1, .int .i64 y.2.1, .int .i64 y.2.2] rfl rfl rfl rfl rfl ?_
    intro Wb8 gb9 egb9 rb10 zb11 bb7
    replace rb4 := rb4.up bb7; replace q := Zu q bb7; refine Za ?_; refine Zq ?_; refine Zr ?_; refine Zf ?_; refine Zl rb4 ?_; refine Zf ?_; refine Zl rb4 ?_
    refine LL.val (R.addI rfl rfl rfl (by omega)) rfl rfl rfl ?_
    refine Zf ?_; refine Zl rb4 ?_; refine Zf ?_; refine Zl rb4 ?_
    refine LL.val (R.addI rfl rfl rfl (by omega)) rfl rfl rfl ?_
    refine Zf ?_; refine Zl rb10 ?_
    refine LL.val (R.buildV rfl rfl (v := .agg #[Value.int IntKind.i64 (x.1 + x.2.2), Value.int IntKind.i64 (x.2.1 + x.2.2), Value.int IntKind.i64 y.2.2]) (fun _ => by kernel_rfl)) rfl rfl rfl ?_
    have lb12 := rb10.lt; have lb13 := rb4.lt
    refine LL.alloc ([.int .i64 0, .int .i64 0, .int .i64 0]) rfl rfl rfl rfl rfl ?_
    intro Wb15 gb16 egb16 rb17 zb18 bb14
    replace rb10 := rb10.up bb14; replace rb4 := rb4.up bb14; replace q := Zu q bb14
    refine LL.storeN (vs := [.int .i64 (x.1 + x.2.2), .int .i64 (x.2.1 + x.2.2), .int .i64 y.2.2]) rfl rfl rfl rfl rb17 (by exact Nat.le_of_ble_eq_true rfl) (ones_of rfl) rfl rfl ?_
    intro Wb20 rb21 bb19 zb22
    have hlbb19 := rb17.lt
    replace rb21 : RowL Wb20 _ 124 [.int .i64 (x.1 + x.2.2), .int .i64 (x.2.1 + x.2.2), .int .i64 y.2.2] := rb21
    clear rb17
    replace rb10 := Zd rb10 bb19; replace rb4 := Zd rb4 bb19; replace q := Zg q bb19
    have rb17 := rb21
    clear rb21
    refine Zq ?_; refine Zr ?_; refine Zf ?_; refine Zl rb10 ?_; refine Zf ?_; refine Zl rb17 ?_; refine ZgeT ?_; refine Zm ?_; refine Zv rb10 ?_; refine Zv rb17 ?_
    refine LL.val (R.neSF (p := (y.1 : Int) = x.1 + x.2.2 ∧ (y.2.1 : Int) = x.2.1 + x.2.2 ∧ (y.2.2 : Int) = y.2.2) (bs := [decide ((y.1 : Int) = x.1 + x.2.2), decide ((y.2.1 : Int) = x.2.1 + x.2.2), decide ((y.2.2 : Int) = y.2.2)]) rfl rfl rfl rfl (by kernel_rfl) (by kernel_rfl) (by simp) (by first | assumption | omega | exact ⟨rfl, rfl⟩ | exact fun h => h ⟨rfl, rfl⟩)) rfl rfl rfl ?_
    refine Zp ?_; refine Za ?_; refine Zq ?_; refine ZR ?_; refine EE.ret _ rfl rfl ?_
    exact ⟨rfl, q⟩
--C extents_faults_1 | faults1_any _ @w | DB
--C extents_faults_2 | faults2_any _ @w (by assumption) | DB
--C extents_faults_3 | faults3_any _ @w (by assumption) (by assumption) | DB
set_option maxRecDepth 100000 in
set_option maxHeartbeats 4000000 in
theorem may_any (x : Ex) (w : World) : Calls Tryz.prog 143 #[exV x] w fun e w' => e = .returned (.bool (decide (mayE x))) ∧ Below w.heap.size w w' := by
  have q := Below.refl w.heap.size w
  by_cases h1 : f1E x
  · rw [decide_eq_false (by unfold mayE; unfold f1E at h1; omega)]
    refine X.fn Tryz.func143 rfl (n := 15) rfl rfl ?_
    refine Zr ?_
    refine LL.box [.int .i64 x.1, .int .i64 x.2.1, .int .i64 x.2.2] rfl rfl rfl rfl rfl ?_
    intro W2 g3 eg3 r4 z5 b1
    replace q := Zu q b1; refine Za ?_; refine Zq ?_; refine Zc ?_; refine Zr ?_
    refine Zy (R.call rfl rfl rfl) (faults_any _) ?_
    rintro e W7 ⟨g8, rfl, r9, l10, b6⟩
    refine ⟨_, rfl, ?_⟩; have zb6 := b6.size; replace r4 := r4.up b6; replace q := Zu q b6; refine Zn ?_; refine Zm ?_; refine Zq ?_; refine CC.block ?_
    refine CC.loopN 6 ?_
    refine RN.step ?_
    refine Zr ?_; refine ZltT ?_; refine Zq ?_; refine Zc ?_; refine ZY ?_; refine ZK ?_; refine ZT ?_; refine Zc ?_; refine CC.block ?_; refine Zr ?_; refine Zi ?_; refine Zl r9 ?_; refine Za ?_; refine Zq ?_; refine Zr ?_; refine Zm ?_; refine Zv r4 ?_
    refine LL.callBT (R.callV rfl rfl rfl rfl) rfl rfl rfl (faults1_any _ _) (by first | assumption | omega) (fun W13 b12 => ?_)
    have zb12 := b12.size; replace r9 := r9.up b12; replace r4 := r4.up b12; replace q := Zu q b12; refine Zq ?_; refine ZY ?_; refine Zr ?_; refine Za ?_; refine Zq ?_; refine ZR ?_; refine EE.inR ?_; refine EE.thenR ?_; refine EE.thenR ?_; refine EE.inR ?_; refine EE.thenR ?_; refine EE.ret _ rfl rfl ?_
    exact ⟨rfl, q⟩
  have h11 : 1 ≤ x.2.2 := by unfold f1E at h1; omega
  by_cases h2 : f2E x
  · rw [decide_eq_false (by unfold mayE; unfold f2E at h2; omega)]
    refine X.fn Tryz.func143 rfl (n := 15) rfl rfl ?_
    refine Zr ?_
    refine LL.box [.int .i64 x.1, .int .i64 x.2.1, .int .i64 x.2.2] rfl rfl rfl rfl rfl ?_
    intro Wa2 ga3 ega3 ra4 za5 ba1
    replace q := Zu q ba1; refine Za ?_; refine Zq ?_; refine Zc ?_; refine Zr ?_
    refine Zy (R.call rfl rfl rfl) (faults_any _) ?_
    rintro e Wa7 ⟨ga8, rfl, ra9, la10, ba6⟩
    refine ⟨_, rfl, ?_⟩; have zba6 := ba6.size; replace ra4 := ra4.up ba6; replace q := Zu q ba6; refine Zn ?_; refine Zm ?_; refine Zq ?_; refine CC.block ?_
    refine CC.loopN 6 ?_
    refine RN.step ?_
    refine Zr ?_; refine ZltT ?_; refine Zq ?_; refine Zc ?_; refine ZY ?_; refine ZK ?_; refine ZT ?_; refine Zc ?_; refine CC.block ?_; refine Zr ?_; refine Zi ?_; refine Zl ra9 ?_; refine Za ?_; refine Zq ?_; refine Zr ?_; refine Zm ?_; refine Zv ra4 ?_
    refine LL.callBF (R.callV rfl rfl rfl rfl) rfl rfl rfl (faults1_any _ _) (by first | assumption | omega) (fun Wa13 ba12 => ?_)
    have zba12 := ba12.size; replace ra9 := ra9.up ba12; replace ra4 := ra4.up ba12; replace q := Zu q ba12; refine Zq ?_; refine ZN ?_; refine ZK ?_; refine EE.inN ?_; refine ZT ?_; refine CC.region ?_
    refine LL.val (R.addIz (z := 1) rfl rfl rfl (by decide) (by decide)) rfl rfl rfl ?_
    refine Zm ?_; refine ZL ?_; refine EE.again ?_
    refine RN.step ?_
    refine Zr ?_; refine ZltT ?_; refine Zq ?_; refine Zc ?_; refine ZY ?_; refine ZK ?_; refine ZT ?_; refine Zc ?_; refine CC.block ?_; refine Zr ?_; refine Zi ?_; refine Zl ra9 ?_; refine Za ?_; refine Zq ?_; refine Zr ?_; refine Zm ?_; refine Zv ra4 ?_
    refine LL.callBT (R.callV rfl rfl rfl rfl) rfl rfl rfl (faults2_any _ _ (by assumption)) (by first | assumption | omega) (fun Wa15 ba14 => ?_)
    have zba14 := ba14.size; replace ra9 := ra9.up ba14; replace ra4 := ra4.up ba14; replace q := Zu q ba14; refine Zq ?_; refine ZY ?_; refine Zr ?_; refine Za ?_; refine Zq ?_; refine ZR ?_; refine EE.inR ?_; refine EE.thenR ?_; refine EE.thenR ?_; refine EE.inR ?_; refine EE.thenR ?_; refine EE.ret _ rfl rfl ?_
    exact ⟨rfl, q⟩
  have h21 : x.2.2 ≤ 128 := by unfold f2E at h2; omega
  by_cases h3 : f3E x
  · rw [decide_eq_false (by unfold mayE; unfold f3E at h3; omega)]
    refine X.fn Tryz.func143 rfl (n := 15) rfl rfl ?_
    refine Zr ?_
    refine LL.box [.int .i64 x.1, .int .i64 x.2.1, .int .i64 x.2.2] rfl rfl rfl rfl rfl ?_
    intro Wb2 gb3 egb3 rb4 zb5 bb1
    replace q := Zu q bb1; refine Za ?_; refine Zq ?_; refine Zc ?_; refine Zr ?_
    refine Zy (R.call rfl rfl rfl) (faults_any _) ?_
    rintro e Wb7 ⟨gb8, rfl, rb9, lb10, bb6⟩
    refine ⟨_, rfl, ?_⟩; have zbb6 := bb6.size; replace rb4 := rb4.up bb6; replace q := Zu q bb6; refine Zn ?_; refine Zm ?_; refine Zq ?_; refine CC.block ?_
    refine CC.loopN 6 ?_
    refine RN.step ?_
    refine Zr ?_; refine ZltT ?_; refine Zq ?_; refine Zc ?_; refine ZY ?_; refine ZK ?_; refine ZT ?_; refine Zc ?_; refine CC.block ?_; refine Zr ?_; refine Zi ?_; refine Zl rb9 ?_; refine Za ?_; refine Zq ?_; refine Zr ?_; refine Zm ?_; refine Zv rb4 ?_
    refine LL.callBF (R.callV rfl rfl rfl rfl) rfl rfl rfl (faults1_any _ _) (by first | assumption | omega) (fun Wb13 bb12 => ?_)
    have zbb12 := bb12.size; replace rb9 := rb9.up bb12; replace rb4 := rb4.up bb12; replace q := Zu q bb12; refine Zq ?_; refine ZN ?_; refine ZK ?_; refine EE.inN ?_; refine ZT ?_; refine CC.region ?_
    refine LL.val (R.addIz (z := 1) rfl rfl rfl (by decide) (by decide)) rfl rfl rfl ?_
    refine Zm ?_; refine ZL ?_; refine EE.again ?_
    refine RN.step ?_
    refine Zr ?_; refine ZltT ?_; refine Zq ?_; refine Zc ?_; refine ZY ?_; refine ZK ?_; refine ZT ?_; refine Zc ?_; refine CC.block ?_; refine Zr ?_; refine Zi ?_; refine Zl rb9 ?_; refine Za ?_; refine Zq ?_; refine Zr ?_; refine Zm ?_; refine Zv rb4 ?_
    refine LL.callBF (R.callV rfl rfl rfl rfl) rfl rfl rfl (faults2_any _ _ (by assumption)) (by first | assumption | omega) (fun Wb15 bb14 => ?_)
    have zbb14 := bb14.size; replace rb9 := rb9.up bb14; replace rb4 := rb4.up bb14; replace q := Zu q bb14; refine Zq ?_; refine ZN ?_; refine ZK ?_; refine EE.inN ?_; refine ZT ?_; refine CC.region ?_
    refine LL.val (R.addIz (z := 2) rfl rfl rfl (by decide) (by decide)) rfl rfl rfl ?_
    refine Zm ?_; refine ZL ?_; refine EE.again ?_
    refine RN.step ?_
    refine Zr ?_; refine ZltT ?_; refine Zq ?_; refine Zc ?_; refine ZY ?_; refine ZK ?_; refine ZT ?_; refine Zc ?_; refine CC.block ?_; refine Zr ?_; refine Zi ?_; refine Zl rb9 ?_; refine Za ?_; refine Zq ?_; refine Zr ?_; refine Zm ?_; refine Zv rb4 ?_
    refine LL.callBT (R.callV rfl rfl rfl rfl) rfl rfl rfl (faults3_any _ _ (by assumption) (by assumption)) (by first | assumption | omega) (fun Wb17 bb16 => ?_)
    have zbb16 := bb16.size; replace rb9 := rb9.up bb16; replace rb4 := rb4.up bb16; replace q := Zu q bb16; refine Zq ?_; refine ZY ?_; refine Zr ?_; refine Za ?_; refine Zq ?_; refine ZR ?_; refine EE.inR ?_; refine EE.thenR ?_; refine EE.thenR ?_; refine EE.inR ?_; refine EE.thenR ?_; refine EE.ret _ rfl rfl ?_
    exact ⟨rfl, q⟩
  · rw [decide_eq_true (by unfold mayE; unfold f1E at h1; unfold f2E at h2; unfold f3E at h3; omega)]
    refine X.fn Tryz.func143 rfl (n := 15) rfl rfl ?_
    refine Zr ?_
    refine LL.box [.int .i64 x.1, .int .i64 x.2.1, .int .i64 x.2.2] rfl rfl rfl rfl rfl ?_
    intro Wc2 gc3 egc3 rc4 zc5 bc1
    replace q := Zu q bc1; refine Za ?_; refine Zq ?_; refine Zc ?_; refine Zr ?_
    refine Zy (R.call rfl rfl rfl) (faults_any _) ?_
    rintro e Wc7 ⟨gc8, rfl, rc9, lc10, bc6⟩
    refine ⟨_, rfl, ?_⟩; have zbc6 := bc6.size; replace rc4 := rc4.up bc6; replace q := Zu q bc6; refine Zn ?_; refine Zm ?_; refine Zq ?_; refine CC.block ?_
    refine CC.loopN 6 ?_
    refine RN.step ?_
    refine Zr ?_; refine ZltT ?_; refine Zq ?_; refine Zc ?_; refine ZY ?_; refine ZK ?_; refine ZT ?_; refine Zc ?_; refine CC.block ?_; refine Zr ?_; refine Zi ?_; refine Zl rc9 ?_; refine Za ?_; refine Zq ?_; refine Zr ?_; refine Zm ?_; refine Zv rc4 ?_
    refine LL.callBF (R.callV rfl rfl rfl rfl) rfl rfl rfl (faults1_any _ _) (by first | assumption | omega) (fun Wc13 bc12 => ?_)
    have zbc12 := bc12.size; replace rc9 := rc9.up bc12; replace rc4 := rc4.up bc12; replace q := Zu q bc12; refine Zq ?_; refine ZN ?_; refine ZK ?_; refine EE.inN ?_; refine ZT ?_; refine CC.region ?_
    refine LL.val (R.addIz (z := 1) rfl rfl rfl (by decide) (by decide)) rfl rfl rfl ?_
    refine Zm ?_; refine ZL ?_; refine EE.again ?_
    refine RN.step ?_
    refine Zr ?_; refine ZltT ?_; refine Zq ?_; refine Zc ?_; refine ZY ?_; refine ZK ?_; refine ZT ?_; refine Zc ?_; refine CC.block ?_; refine Zr ?_; refine Zi ?_; refine Zl rc9 ?_; refine Za ?_; refine Zq ?_; refine Zr ?_; refine Zm ?_; refine Zv rc4 ?_
    refine LL.callBF (R.callV rfl rfl rfl rfl) rfl rfl rfl (faults2_any _ _ (by assumption)) (by first | assumption | omega) (fun Wc15 bc14 => ?_)
    have zbc14 := bc14.size; replace rc9 := rc9.up bc14; replace rc4 := rc4.up bc14; replace q := Zu q bc14; refine Zq ?_; refine ZN ?_; refine ZK ?_; refine EE.inN ?_; refine ZT ?_; refine CC.region ?_
    refine LL.val (R.addIz (z := 2) rfl rfl rfl (by decide) (by decide)) rfl rfl rfl ?_
    refine Zm ?_; refine ZL ?_; refine EE.again ?_
    refine RN.step ?_
    refine Zr ?_; refine ZltT ?_; refine Zq ?_; refine Zc ?_; refine ZY ?_; refine ZK ?_; refine ZT ?_; refine Zc ?_; refine CC.block ?_; refine Zr ?_; refine Zi ?_; refine Zl rc9 ?_; refine Za ?_; refine Zq ?_; refine Zr ?_; refine Zm ?_; refine Zv rc4 ?_
    refine LL.callBF (R.callV rfl rfl rfl rfl) rfl rfl rfl (faults3_any _ _ (by assumption) (by assumption)) (by first | assumption | omega) (fun Wc17 bc16 => ?_)
    have zbc16 := bc16.size; replace rc9 := rc9.up bc16; replace rc4 := rc4.up bc16; replace q := Zu q bc16; refine Zq ?_; refine ZN ?_; refine ZK ?_; refine EE.inN ?_; refine ZT ?_; refine CC.region ?_
    refine LL.val (R.addIz (z := 3) rfl rfl rfl (by decide) (by decide)) rfl rfl rfl ?_
    refine Zm ?_; refine ZL ?_; refine EE.again ?_
    refine RN.step ?_
    refine Zr ?_; refine ZltF ?_; refine Zq ?_; refine Zc ?_; refine ZN ?_; refine CC.exit ?_; refine EE.thenX ?_; refine EE.thenX ?_; refine EE.inX ?_; refine ZT ?_; refine Zr ?_; refine Za ?_; refine Zq ?_; refine ZR ?_; refine EE.ret _ rfl rfl ?_
    exact ⟨rfl, q⟩
/-- The list as far as it was looked at may be a map's. -/
structure preV (l : List Ex) (i : Nat) : Prop where
  may : ∀ j x, j < i → l[j]? = some x → mayE x
  apart : ∀ j k x y, j < k → k < i → l[j]? = some x → l[k]? = some y → apartE x y
  follow : ∀ j x y, j + 1 < i → l[j]? = some x → l[j + 1]? = some y → followE x y
theorem preV_zero (l : List Ex) : preV l 0 := ⟨fun _ _ h => by omega, fun _ _ _ _ _ h => by omega, fun _ _ _ h => by omega⟩
theorem preV_succ {l : List Ex} {i : Nat} {x : Ex} (h : preV l i) (hx : l[i]? = some x) (hm : mayE x) (ha : ∀ j y, j < i → l[j]? = some y → apartE y x) (hf : ∀ y, 0 < i → l[i - 1]? = some y → followE y x) : preV l (i + 1) := by
  refine ⟨fun j y hj hy => ?_, fun j k y z hjk hk hy hz => ?_, fun j y z hj hy hz => ?_⟩
  · by_cases e : j = i
    · subst e; rw [hx] at hy; cases hy; exact hm
    · exact h.may j y (by omega) hy
  · by_cases e : k = i
    · subst e; rw [hx] at hz; cases hz; exact ha j y hjk hy
    · exact h.apart j k y z hjk (by omega) hy hz
  · by_cases e : j + 1 = i
    · subst e; rw [hx] at hz; cases hz; exact hf y (by omega) (by simpa using hy)
    · exact h.follow j y z (by omega) hy hz
theorem preV_of {l : List Ex} (h : vL l) : preV l l.length := by
  refine ⟨fun j x _ hx => h.2.1 x (List.mem_of_getElem? hx), fun j k x y hjk hk hx hy => ?_, fun j x y _ hx hy => chE_at.1 h.2.2.2 j x y hx hy⟩
  obtain ⟨hj, rfl⟩ := List.getElem?_eq_some_iff.1 hx
  obtain ⟨hk, rfl⟩ := List.getElem?_eq_some_iff.1 hy
  exact List.pairwise_iff_getElem.1 h.2.2.1 j k hj hk hjk
theorem vL_of {l : List Ex} (hl : l.length ≤ 10) (h : preV l l.length) : vL l := by
  refine ⟨hl, fun x hx => ?_, List.pairwise_iff_getElem.2 fun j k hj hk hjk => h.apart j k _ _ hjk hk (List.getElem?_eq_getElem hj) (List.getElem?_eq_getElem hk), chE_at.2 fun j x y hx hy => h.follow j x y (List.getElem?_eq_some_iff.1 hy).1 hx hy⟩
  obtain ⟨j, hj, rfl⟩ := List.mem_iff_getElem.1 hx
  exact h.may j _ hj (List.getElem?_eq_getElem hj)
set_option maxRecDepth 100000 in
set_option maxHeartbeats 8000000 in
theorem check_any (v : Value) (l : List Ex) (w : World) (hv : ReadsT eE 3 w v l) (hlen : l.length ≤ 1048576) : Calls Tryz.prog 124 #[v] w fun e w' => (∃ n : Int, e = .returned (.int .i64 n) ∧ ((n = 0 ∧ vL l) ∨ (n = 2 ∧ ¬vL l))) ∧ Below w.heap.size w w' := by
  have q := Below.refl w.heap.size w
  obtain ⟨N, hN⟩ : ∃ N, l.length = N := ⟨_, rfl⟩
  rw [hN] at hlen
  obtain ⟨a, cap, rfl, hcap⟩ := hv.form hN
  refine X.fn Tryz.func124 rfl (n := 46) rfl rfl ?_
  refine Zr ?_; refine Za ?_; refine Zq ?_
  refine CC.fwd (l := 0) (α := Unit) (fun _ => []) (fun _ => []) (fun _ W => Below w.heap.size w W ∧ ¬vL l) rfl ?first ?pass
  case pass =>
    rintro _ W ⟨q, hno⟩
    refine Zc ?_; refine ZK ?_; refine ZT ?_; refine Zr ?_; refine Za ?_; refine Zq ?_; refine ZR ?_; refine EE.jumpR ?_; refine EE.ret _ rfl rfl ?_
    exact ⟨⟨2, rfl, .inr ⟨rfl, hno⟩⟩, q⟩
  case first =>
    by_cases h10 : 10 < N
    · have hno : ¬vL l := fun h => by have := h.1; omega
      refine Zc ?_; refine Zr ?_; refine Zm ?_; refine Zn ?_; refine ZgtT ?_; refine Zq ?_; refine ZY ?_; refine CC.goto ?_; refine EE.thenG ?_
      (refine EE.jumpTo () rfl ?_ ⟨q, hno⟩; exact trivial)
    refine Zc ?_; refine Zr ?_; refine Zm ?_; refine Zn ?_; refine ZgtF ?_; refine Zq ?_; refine ZN ?_; refine ZK ?_; refine ZT ?_; refine Zc ?_; refine Zr ?_; refine Zm ?_; refine Zn ?_; refine Zm ?_; refine Zq ?_; refine CC.block ?_
    refine CC.loop (α := Nat) (fun i => [(0, .slice a N cap), (10, .slice a N cap), (11, .int .i64 (N : Int)), (12, .int .i64 (i : Int))]) (fun i W => i ≤ N ∧ Below w.heap.size w W ∧ preV l i) (fun i => N - i) 0 ⟨rfl, rfl, rfl, rfl, trivial⟩ ⟨by omega, q, preV_zero l⟩ ?_
    clear q
    rintro i W ⟨hi, q, hp⟩
    show CC none Tryz.prog _ 46 [] (sl [(0, .slice a N cap), (10, .slice a N cap), (11, .int .i64 (N : Int)), (12, .int .i64 (i : Int))]) _ W
    by_cases hlt : i < N
    case neg =>
      obtain rfl : i = N := by omega
      have hy : vL l := vL_of (by omega) (by rw [hN]; exact hp)
      refine Zr ?_; refine ZltF ?_; refine Zq ?_; refine Zc ?_; refine ZN ?_; refine CC.exit ?_; refine EE.thenX ?_; refine EE.thenX ?_; refine EE.inX ?_; refine ZT ?_; refine Zc ?_; refine Zr ?_; refine Za ?_; refine Zq ?_; refine ZR ?_; refine EE.thenR ?_; refine EE.jumpR ?_; refine EE.ret _ rfl rfl ?_
      exact ⟨⟨0, rfl, .inl ⟨rfl, hy⟩⟩, q⟩
    obtain ⟨x, hx⟩ : ∃ x, l[i]? = some x := ⟨_, List.getElem?_eq_getElem (by omega)⟩
    have hvW := hv.up q
    have yq := q.size
    obtain ⟨bk, off, rfl, hbk, hcs⟩ := hvW.get eEnc hx
    have hcs : Cells W ⟨bk, off + i * 3, none⟩ [.int .i64 x.1, .int .i64 x.2.1, .int .i64 x.2.2] := hcs
    by_cases hm : mayE x
    case neg =>
      have hno : ¬vL l := fun h => hm ((preV_of h).may i x (by omega) hx)
      refine Zr ?_; refine ZltT ?_; refine Zq ?_; refine Zc ?_; refine ZY ?_; refine ZK ?_; refine ZT ?_; refine Zc ?_; refine CC.block ?_; refine Zr ?_; refine Zm ?_
      refine LL.val (R.index rfl rfl rfl (I.ixS rfl (by omega))) rfl rfl rfl ?_
      refine LL.val (R.load rfl rfl (I.ldNc (by assumption) rfl rfl)) rfl rfl rfl ?_
      refine LL.alloc ([.int .i64 0, .int .i64 0, .int .i64 0]) rfl rfl rfl rfl rfl ?_
      intro We2 ge3 ege3 re4 ze5 be1
      replace q := Zu q be1; replace hvW := hvW.up be1; replace hcs := hcs.up be1; refine Za ?_
      refine LL.storeN (vs := [.int .i64 x.1, .int .i64 x.2.1, .int .i64 x.2.2]) rfl rfl rfl rfl re4 (by exact Nat.le_of_ble_eq_true rfl) (ones_of rfl) rfl rfl ?_
      intro We7 re8 be6 ze9
      have hlbe6 := re4.lt
      replace re8 : RowL We7 _ 124 [.int .i64 x.1, .int .i64 x.2.1, .int .i64 x.2.2] := re8
      clear re4
      replace q := Zg q be6
      replace hvW := hvW.gr be6 (by omega)
      replace hcs := hcs.gr be6 (by omega)
      have re4 := re8
      clear re8
      refine Zq ?_; refine Zc ?_; refine Zr ?_; refine Zv re4 ?_
      refine LL.callBF (R.call rfl rfl rfl) rfl rfl rfl (may_any _ _) (by first | assumption | omega) (fun We11 be10 => ?_)
      have zbe10 := be10.size; replace q := Zu q be10; replace hvW := hvW.up be10; replace hcs := hcs.up be10; replace re4 := re4.up be10; refine Zt ?_; refine Zq ?_; refine ZY ?_; refine CC.goto ?_; refine EE.thenG ?_; refine EE.inG ?_; refine EE.thenG ?_; refine EE.thenG ?_; refine EE.inG ?_; refine EE.thenG ?_
      (refine EE.jumpTo () rfl ?_ ⟨q, hno⟩; exact trivial)
    refine Zr ?_; refine ZltT ?_; refine Zq ?_; refine Zc ?_; refine ZY ?_; refine ZK ?_; refine ZT ?_; refine Zc ?_; refine CC.block ?_; refine Zr ?_; refine Zm ?_
    refine LL.val (R.index rfl rfl rfl (I.ixS rfl (by omega))) rfl rfl rfl ?_
    refine LL.val (R.load rfl rfl (I.ldNc (by assumption) rfl rfl)) rfl rfl rfl ?_
    refine LL.alloc ([.int .i64 0, .int .i64 0, .int .i64 0]) rfl rfl rfl rfl rfl ?_
    intro Wf2 gf3 egf3 rf4 zf5 bf1
    replace q := Zu q bf1; replace hvW := hvW.up bf1; replace hcs := hcs.up bf1; refine Za ?_
    refine LL.storeN (vs := [.int .i64 x.1, .int .i64 x.2.1, .int .i64 x.2.2]) rfl rfl rfl rfl rf4 (by exact Nat.le_of_ble_eq_true rfl) (ones_of rfl) rfl rfl ?_
    intro Wf7 rf8 bf6 zf9
    have hlbf6 := rf4.lt
    replace rf8 : RowL Wf7 _ 124 [.int .i64 x.1, .int .i64 x.2.1, .int .i64 x.2.2] := rf8
    clear rf4
    replace q := Zg q bf6
    replace hvW := hvW.gr bf6 (by omega)
    replace hcs := hcs.gr bf6 (by omega)
    have rf4 := rf8
    clear rf8
    refine Zq ?_; refine Zc ?_; refine Zr ?_; refine Zv rf4 ?_
    refine LL.callBT (R.call rfl rfl rfl) rfl rfl rfl (may_any _ _) (by first | assumption | omega) (fun Wf11 bf10 => ?_)
    have zbf10 := bf10.size; replace q := Zu q bf10; replace hvW := hvW.up bf10; replace hcs := hcs.up bf10; replace rf4 := rf4.up bf10; refine Zt ?_; refine Zq ?_; refine ZN ?_; refine ZK ?_; refine ZT ?_; refine Zc ?_; refine Zr ?_; refine Zm ?_; refine Zm ?_
    refine LL.val (R.slice rfl rfl rfl rfl rfl (I.slTo rfl (by omega))) rfl rfl rfl ?_
    refine Zn ?_; refine Zm ?_; refine Zq ?_; refine CC.block ?_
    have yB : W.heap.size ≤ Wf11.heap.size := by omega
    have lf3 := rf4.lt
    refine CC.loop (α := Nat) (fun k => [(0, .slice (some ⟨bk, off, none⟩) N cap), (3, .int .i64 (i : Int)), (4, .pointer (some ⟨gf3, 0, none⟩)), (10, .slice (some ⟨bk, off, none⟩) N cap), (11, .int .i64 (N : Int)), (12, .int .i64 (i : Int)), (22, .slice (some ⟨bk, off, none⟩) i cap), (23, .int .i64 (i : Int)), (24, .int .i64 (k : Int))]) (fun k W' => k ≤ i ∧ Below w.heap.size w W' ∧ W.heap.size ≤ W'.heap.size ∧ RowL W' gf3 124 [.int .i64 x.1, .int .i64 x.2.1, .int .i64 x.2.2] ∧ ∀ j y, j < k → l[j]? = some y → apartE y x) (fun k => i - k) 0 ⟨rfl, rfl, rfl, rfl, rfl, rfl, rfl, rfl, rfl, trivial⟩ ⟨by omega, q, by omega, rf4, fun j y h => by omega⟩ ?_
    clear q rf4 hcs
    rintro k W' ⟨hk, q, yB, rf4, ha⟩
    show CC none Tryz.prog _ 46 [] (sl [(0, .slice (some ⟨bk, off, none⟩) N cap), (3, .int .i64 (i : Int)), (4, .pointer (some ⟨gf3, 0, none⟩)), (10, .slice (some ⟨bk, off, none⟩) N cap), (11, .int .i64 (N : Int)), (12, .int .i64 (i : Int)), (22, .slice (some ⟨bk, off, none⟩) i cap), (23, .int .i64 (i : Int)), (24, .int .i64 (k : Int))]) _ W'
    have yq := q.size; have lf3 := rf4.lt
    have hvW := hv.up q
    by_cases hlk : k < i
    · obtain ⟨y, hy⟩ : ∃ y, l[k]? = some y := ⟨_, List.getElem?_eq_getElem (by omega)⟩
      obtain ⟨_, _, e1, hbk', hcs⟩ := hvW.get eEnc hy
      cases e1
      have hcs : Cells W' ⟨bk, off + k * 3, none⟩ [.int .i64 y.1, .int .i64 y.2.1, .int .i64 y.2.2] := hcs
      have hmy := hp.may k y hlk hy
      by_cases hap : apartE y x
      case neg =>
        have hno : ¬vL l := fun h => hap ((preV_of h).apart k i y x hlk (by omega) hy hx)
        refine Zr ?_; refine ZltT ?_; refine Zq ?_; refine Zc ?_; refine ZY ?_; refine ZK ?_; refine ZT ?_; refine Zc ?_; refine CC.block ?_; refine Zr ?_
        refine LL.val (R.index rfl rfl rfl (I.ixS rfl (by omega))) rfl rfl rfl ?_
        refine LL.val (R.load rfl rfl (I.ldNc (by assumption) rfl rfl)) rfl rfl rfl ?_
        have lg1 := rf4.lt
        refine LL.alloc ([.int .i64 0, .int .i64 0, .int .i64 0]) rfl rfl rfl rfl rfl ?_
        intro Wg3 gg4 egg4 rg5 zg6 bg2
        replace q := Zu q bg2; replace rf4 := rf4.up bg2; replace hvW := hvW.up bg2; replace hcs := hcs.up bg2
        refine LL.storeN (vs := [.int .i64 y.1, .int .i64 y.2.1, .int .i64 y.2.2]) rfl rfl rfl rfl rg5 (by exact Nat.le_of_ble_eq_true rfl) (ones_of rfl) rfl rfl ?_
        intro Wg8 rg9 bg7 zg10
        have hlbg7 := rg5.lt
        replace rg9 : RowL Wg8 _ 124 [.int .i64 y.1, .int .i64 y.2.1, .int .i64 y.2.2] := rg9
        clear rg5
        replace q := Zg q bg7; replace rf4 := Zd rf4 bg7
        replace hvW := hvW.gr bg7 (by omega)
        replace hcs := hcs.gr bg7 (by omega)
        have rg5 := rg9
        clear rg9
        refine Zq ?_; refine Zr ?_; refine Zv rg5 ?_; refine Zv rf4 ?_
        refine LL.callBF (R.call rfl rfl rfl) rfl rfl rfl (apart_any _ _ _ (by first | assumption | omega) (by first | assumption | omega)) (by first | assumption | omega) (fun Wg12 bg11 => ?_)
        have zbg11 := bg11.size; replace q := Zu q bg11; replace rf4 := rf4.up bg11; replace hvW := hvW.up bg11; replace hcs := hcs.up bg11; replace rg5 := rg5.up bg11; refine Zt ?_; refine Zq ?_; refine ZY ?_; refine CC.goto ?_; refine EE.inG ?_; refine EE.thenG ?_; refine EE.thenG ?_; refine EE.inG ?_; refine EE.thenG ?_; refine EE.inG ?_; refine EE.thenG ?_; refine EE.thenG ?_; refine EE.inG ?_
        refine EE.thenG ?_
        (refine EE.jumpTo () rfl ?_ ⟨q, hno⟩; exact trivial)
      have ha' : ∀ j z, j < k + 1 → l[j]? = some z → apartE z x := fun j z hj hz => by
        by_cases e : j = k
        · subst e; rw [hy] at hz; cases hz; exact hap
        · exact ha j z (by omega) hz
      refine Zr ?_; refine ZltT ?_; refine Zq ?_; refine Zc ?_; refine ZY ?_; refine ZK ?_; refine ZT ?_; refine Zc ?_; refine CC.block ?_; refine Zr ?_
      refine LL.val (R.index rfl rfl rfl (I.ixS rfl (by omega))) rfl rfl rfl ?_
      refine LL.val (R.load rfl rfl (I.ldNc (by assumption) rfl rfl)) rfl rfl rfl ?_
      have lh1 := rf4.lt
      refine LL.alloc ([.int .i64 0, .int .i64 0, .int .i64 0]) rfl rfl rfl rfl rfl ?_
      intro Wh3 gh4 egh4 rh5 zh6 bh2
      replace q := Zu q bh2; replace rf4 := rf4.up bh2; replace hvW := hvW.up bh2; replace hcs := hcs.up bh2
      refine LL.storeN (vs := [.int .i64 y.1, .int .i64 y.2.1, .int .i64 y.2.2]) rfl rfl rfl rfl rh5 (by exact Nat.le_of_ble_eq_true rfl) (ones_of rfl) rfl rfl ?_
      intro Wh8 rh9 bh7 zh10
      have hlbh7 := rh5.lt
      replace rh9 : RowL Wh8 _ 124 [.int .i64 y.1, .int .i64 y.2.1, .int .i64 y.2.2] := rh9
      clear rh5
      replace q := Zg q bh7; replace rf4 := Zd rf4 bh7
      replace hvW := hvW.gr bh7 (by omega)
      replace hcs := hcs.gr bh7 (by omega)
      have rh5 := rh9
      clear rh9
      refine Zq ?_; refine Zr ?_; refine Zv rh5 ?_; refine Zv rf4 ?_
      refine LL.callBT (R.call rfl rfl rfl) rfl rfl rfl (apart_any _ _ _ (by first | assumption | omega) (by first | assumption | omega)) (by first | assumption | omega) (fun Wh12 bh11 => ?_)
      have zbh11 := bh11.size; replace q := Zu q bh11; replace rf4 := rf4.up bh11; replace hvW := hvW.up bh11; replace hcs := hcs.up bh11; replace rh5 := rh5.up bh11; refine Zt ?_; refine Zq ?_; refine ZN ?_; refine ZK ?_; refine EE.inN ?_; refine ZT ?_; refine CC.region ?_
      refine LL.val (R.addNc rfl rfl rfl rfl (by omega)) rfl rfl rfl ?_
      refine Zm ?_; refine ZL ?_
      exact EE.round (k + 1) ⟨rfl, rfl, rfl, rfl, rfl, rfl, rfl, rfl, rfl, trivial⟩ ⟨by omega, q, by omega, rf4, ha'⟩ (by omega)
    obtain rfl : k = i := by omega
    by_cases h0 : 0 < k
    case neg =>
      obtain rfl : k = 0 := by omega
      have hp' := preV_succ hp hx hm ha fun y h => by omega
      refine Zr ?_; refine ZltF ?_; refine Zq ?_; refine Zc ?_; refine ZN ?_; refine CC.exit ?_; refine EE.thenX ?_; refine EE.thenX ?_; refine EE.inX ?_; refine ZT ?_; refine Zc ?_
      refine CC.grow (by kernel_rfl) (by kernel_rfl) ?_
      refine Gm ?_
      refine GG.val (fun w' b' => R.gtF rfl rfl rfl (by omega)) rfl rfl ?_
      refine Gm ?_
      refine GG.skip rfl rfl ?_
      refine GG.skip rfl rfl ?_
      refine GG.skip rfl rfl ?_
      refine GG.skip rfl rfl ?_
      refine GG.skip rfl rfl ?_
      refine GG.skip rfl rfl ?_
      refine GG.skip rfl rfl ?_
      refine GG.skip rfl rfl ?_
      refine GG.val (fun w' b' => R.pick rfl rfl rfl) rfl rfl ?_
      refine GG.nilQ (fun Wi5 bi4 => ?_)
      have zbi4 := bi4.size; replace q := Zu q bi4; replace rf4 := rf4.up bi4; replace hvW := hvW.up bi4; refine ZT ?_; refine ZN ?_; refine ZK ?_; refine EE.inN ?_; refine ZT ?_; refine CC.region ?_
      refine LL.val (R.addIz (z := 1) rfl rfl rfl (by decide) (by decide)) rfl rfl rfl ?_
      refine Zm ?_; refine ZL ?_
      exact EE.round (0 + 1) ⟨rfl, rfl, rfl, rfl, trivial⟩ ⟨by omega, q, hp'⟩ (by omega)
    obtain ⟨y, hy⟩ : ∃ y, l[k - 1]? = some y := ⟨_, List.getElem?_eq_getElem (by omega)⟩
    obtain ⟨_, _, e1, hbk', hcs⟩ := hvW.get eEnc hy
    cases e1
    have hcs : Cells W' ⟨bk, off + (k - 1) * 3, none⟩ [.int .i64 y.1, .int .i64 y.2.1, .int .i64 y.2.2] := hcs
    have hmy := hp.may (k - 1) y (by omega) hy
    by_cases hf : followE y x
    case neg =>
      have hno : ¬vL l := fun h => hf ((preV_of h).follow (k - 1) y x (by omega) hy (by rw [show k - 1 + 1 = k by omega]; exact hx))
      refine Zr ?_; refine ZltF ?_; refine Zq ?_; refine Zc ?_; refine ZN ?_; refine CC.exit ?_; refine EE.thenX ?_; refine EE.thenX ?_; refine EE.inX ?_; refine ZT ?_; refine Zc ?_
      refine CC.grow (by kernel_rfl) (by kernel_rfl) ?_
      refine Gm ?_
      refine GG.val (fun w' b' => R.gtT rfl rfl rfl (by omega)) rfl rfl ?_
      refine Gm ?_
      refine Gm ?_
      refine Gm ?_
      refine GG.val (fun w' b' => R.subNc rfl rfl rfl rfl (by omega) (by omega)) rfl rfl ?_
      refine GG.val (fun w' b' => R.index rfl rfl rfl (I.ixS rfl (by omega))) rfl rfl ?_
      refine GG.val (fun w' b' => R.load rfl rfl (I.ldNc (hcs.up b') rfl rfl)) rfl rfl ?_
      refine Gv rf4 ?_
      refine GG.callDF (fun w' => (R.call rfl rfl rfl)) rfl rfl (fun w' b' => (follow_any _ _ w' (by first | assumption | omega) (by first | assumption | omega)).mono fun e W' h => ⟨h.1, b'.trans (h.2.mono b'.size)⟩) (by first | assumption | omega) ?_
      refine Gt ?_
      refine GG.val (fun w' b' => R.pick rfl rfl rfl) rfl rfl ?_
      refine GG.nilQ (fun Wj5 bj4 => ?_)
      have zbj4 := bj4.size; replace q := Zu q bj4; replace rf4 := rf4.up bj4; replace hvW := hvW.up bj4; replace hcs := hcs.up bj4; refine ZT ?_; refine ZY ?_; refine CC.goto ?_; refine EE.inG ?_; refine EE.thenG ?_; refine EE.thenG ?_; refine EE.inG ?_; refine EE.thenG ?_
      (refine EE.jumpTo () rfl ?_ ⟨q, hno⟩; exact trivial)
    have hp' := preV_succ hp hx hm ha fun z _ hz => by rw [hy] at hz; cases hz; exact hf
    refine Zr ?_; refine ZltF ?_; refine Zq ?_; refine Zc ?_; refine ZN ?_; refine CC.exit ?_; refine EE.thenX ?_; refine EE.thenX ?_; refine EE.inX ?_; refine ZT ?_; refine Zc ?_
    refine CC.grow (by kernel_rfl) (by kernel_rfl) ?_
    refine Gm ?_
    refine GG.val (fun w' b' => R.gtT rfl rfl rfl (by omega)) rfl rfl ?_
    refine Gm ?_
    refine Gm ?_
    refine Gm ?_
    refine GG.val (fun w' b' => R.subNc rfl rfl rfl rfl (by omega) (by omega)) rfl rfl ?_
    refine GG.val (fun w' b' => R.index rfl rfl rfl (I.ixS rfl (by omega))) rfl rfl ?_
    refine GG.val (fun w' b' => R.load rfl rfl (I.ldNc (hcs.up b') rfl rfl)) rfl rfl ?_
    refine Gv rf4 ?_
    refine GG.callDT (fun w' => (R.call rfl rfl rfl)) rfl rfl (fun w' b' => (follow_any _ _ w' (by first | assumption | omega) (by first | assumption | omega)).mono fun e W' h => ⟨h.1, b'.trans (h.2.mono b'.size)⟩) (by first | assumption | omega) ?_
    refine Gt ?_
    refine GG.val (fun w' b' => R.pick rfl rfl rfl) rfl rfl ?_
    refine GG.nilQ (fun Wk5 bk4 => ?_)
    have zbk4 := bk4.size; replace q := Zu q bk4; replace rf4 := rf4.up bk4; replace hvW := hvW.up bk4; replace hcs := hcs.up bk4; refine ZT ?_; refine ZN ?_; refine ZK ?_; refine EE.inN ?_; refine ZT ?_; refine CC.region ?_
    refine LL.val (R.addNc rfl rfl rfl rfl (by omega)) rfl rfl rfl ?_
    refine Zm ?_; refine ZL ?_
    exact EE.round (k + 1) ⟨rfl, rfl, rfl, rfl, trivial⟩ ⟨by omega, q, hp'⟩ (by omega)
set_option linter.unusedVariables false
set_option linter.unusedSimpArgs false
/-- Whole numbers of a kind. -/
abbrev intsZ (k : IntKind) (ns : List Int) : List Value := ns.map fun z : Int => Value.int k z
section
variable {P : Program} {w w' : World} {t : TypeId} {o : Oper} {x y : Operand} {n : Nat} {D : List Deferred} {M : Slots} {r : Option Nat} {ops : Array Oper} {Q : Exit → Act → World → Prop} {rest : List Oper}
def avB (P : Program) (t : TypeId) (n : Nat) : Bool := match P.underlying t with
  | some (.array m e) => m == n && (P.plainKey e && (szB P e == some 1))
  | _ => false
theorem I.ixV {i : Nat} {cs : Array Value} {v : Value} (h : avB P t n = true) (hi : i < n) (hv : cs[i]? = some v) : (Instr.index t (.agg cs) (.int .i64 (i : Int))).run P w = .ok v w := by
  unfold avB at h
  cases hu : P.underlying t with
  | none => rw [hu] at h; cases h
  | some u =>
    rw [hu] at h
    cases u <;> try (cases h; done)
    rename_i m e
    simp only [Bool.and_eq_true, beq_iff_eq] at h
    obtain ⟨rfl, he, hz⟩ := h
    have h1 : (i : Int) < (m : Int) := by omega
    have := run_part_plain (P := P) w he hv
    simp [Instr.index, asIntOf, run_underlying hu, h1, size_of_sz hz, this]
    exact fun hh => absurd hi (by omega)
/-- An element of an array's value. -/
theorem R.ixZ {i m : Nat} {k : IntKind} {ns : List Int} {z : Int} (ho : o.op = .index t x y) (hx : evM M x = some (.agg (intsZ k ns).toArray)) (hy : evM M y = some (.int .i64 (i : Int))) (h : avB P t m = true) (hl : ns.length = m) (hv : ns[i]? = some z) : Runs P n D M o w (.value (.int k z)) w :=
  R.indexV ho hx hy (I.ixV h (by have := (List.getElem?_eq_some_iff.1 hv).1; omega) (by simp [hv]))
theorem R.ixVc {i m : Nat} {cs : Array Value} {v : Value} (hlit : Nat.ble i 18446744073709551616 = true) (ho : o.op = .index t x y) (hx : evM M x = some (.agg cs)) (hy : evM M y = some (.int .i64 (@OfNat.ofNat Int i instOfNat))) (hm : arB P t = some (m, 1)) (h : avB P t m = true) (hi : Nat.blt i m = true) (hv : cs[i]? = some v) : Runs P n D M o w (.value v) w :=
  R.indexV ho hx hy (I.ixV (i := i) h (by simpa [Nat.blt_eq] using hi) hv)
/-- All of an array's row. -/
theorem R.loadZ {g e m : Nat} {k : IntKind} {ns : List Int} (ho : o.op = .load t x) (hx : evM M x = some (.pointer (some ⟨g, 0, none⟩))) (hr : RowL w g e (intsZ k ns)) (ha : aggB P t = true) (hz : szB P t = some m) (hl : ns.length = m) : Runs P n D M o w (.value (.agg (intsZ k ns).toArray)) w :=
  R.load ho hx (I.ldNc (RowL.cells0 hr) ha (by rw [hz, List.length_map, hl]))
/-- A store into an array's row. -/
theorem LL.storeZ {g off e i : Nat} {k : IntKind} {ns : List Int} {z : Int} (ho : o.op = .store t x y) (hx : evM M x = some (.pointer (some ⟨g, off, none⟩))) (hoff : off = i) (hy : evM M y = some (.int k z)) (hz : szB P t = some 1) (hr : RowL w g e (intsZ k ns)) (hi : i < ns.length) (hd : o.dst = none) (hg : wantB ops M o.guard = some true)
    (kk : ∀ w', RowL w' g e (intsZ k (ns.set i z)) → w.grownBy w' (some g) → w'.heap.size = w.heap.size → LL r P ops Q n D M rest w') : LL r P ops Q n D M (o :: rest) w := by
  subst hoff
  refine LL.store ho hx hy hz hr (by rw [List.length_map]; exact hi) rfl rfl hd hg ?_
  intro w' r' g' z'
  refine kk w' ?_ g' z'
  rw [show intsZ k (ns.set off z) = (intsZ k ns).set off (.int k z) from List.map_set ..]
  exact r'
/-- A store of a whole array. -/
theorem LL.storeAZ {g e m : Nat} {k : IntKind} {ns : List Int} {xs : List Value} (ho : o.op = .store t x y) (hx : evM M x = some (.pointer (some ⟨g, 0, none⟩))) (hy : evM M y = some (.agg (intsZ k ns).toArray)) (hz : szB P t = some m) (hl : ns.length = m) (hr : RowL w g e xs) (hxl : xs.length = m) (hd : o.dst = none) (hg : wantB ops M o.guard = some true)
    (kk : ∀ w', RowL w' g e (intsZ k ns) → w.grownBy w' (some g) → w'.heap.size = w.heap.size → LL r P ops Q n D M rest w') : LL r P ops Q n D M (o :: rest) w := by
  refine LL.storeN (vs := intsZ k ns) ho hx hy (by rw [hz, List.length_map, hl]) hr (by rw [List.length_map]; omega) (fun u hu => by simp only [List.mem_map] at hu; obtain ⟨z, _, rfl⟩ := hu; rfl) hd hg ?_
  intro w' r' g' z'
  refine kk w' ?_ g' z'
  have e1 : xs.take 0 ++ (intsZ k ns) ++ xs.drop (0 + (intsZ k ns).length) = intsZ k ns := by
    rw [List.drop_of_length_le (by rw [List.length_map]; omega)]
    simp
  first
    | (rw [← e1]; exact r')
    | (have := r'; simp only [List.take_zero, List.nil_append, Nat.zero_add, List.length_map] at this; rw [List.drop_of_length_le (by omega), List.append_nil] at this; exact this)
theorem ZR.storeZ {ok : World → Prop} {j : Nat} {K : Slots → World → Prop} {g off e i : Nat} {k : IntKind} {ns : List Int} {z : Int} (hj : ops[j]? = some o) (ho : o.op = .store t x y) (hx : evM M x = some (.pointer (some ⟨g, off, none⟩))) (hoff : off = i) (hy : evM M y = some (.int k z)) (hz : szB P t = some 1) (hr : RowL w g e (intsZ k ns)) (hi : i < ns.length) (hd : o.dst = none) (hg : wantB ops M o.guard = some true)
    (kk : ∀ w', RowL w' g e (intsZ k (ns.set i z)) → w.grownBy w' (some g) → w'.heap.size = w.heap.size → ok w' ∧ K M w') : SR P ops ok j K n D M w := by
  subst hoff
  refine ZR.store hj ho hx hy hz hr (by rw [List.length_map]; exact hi) rfl rfl hd hg ?_
  intro w' r' g' z'
  refine kk w' ?_ g' z'
  rw [show intsZ k (ns.set off z) = (intsZ k ns).set off (.int k z) from List.map_set ..]
  exact r'
theorem ZR.storeAZ {ok : World → Prop} {j : Nat} {K : Slots → World → Prop} {g e m : Nat} {k : IntKind} {ns : List Int} {xs : List Value} (hj : ops[j]? = some o) (ho : o.op = .store t x y) (hx : evM M x = some (.pointer (some ⟨g, 0, none⟩))) (hy : evM M y = some (.agg (intsZ k ns).toArray)) (hz : szB P t = some m) (hl : ns.length = m) (hr : RowL w g e xs) (hxl : xs.length = m) (hd : o.dst = none) (hg : wantB ops M o.guard = some true)
    (kk : ∀ w', RowL w' g e (intsZ k ns) → w.grownBy w' (some g) → w'.heap.size = w.heap.size → ok w' ∧ K M w') : SR P ops ok j K n D M w := by
  refine ZR.storeN (vs := intsZ k ns) hj ho hx hy (by rw [hz, List.length_map, hl]) hr (by rw [List.length_map]; omega) (fun u hu => by simp only [List.mem_map] at hu; obtain ⟨z, _, rfl⟩ := hu; rfl) hd hg ?_
  intro w' r' g' z'
  refine kk w' ?_ g' z'
  have e1 : xs.take 0 ++ (intsZ k ns) ++ xs.drop (0 + (intsZ k ns).length) = intsZ k ns := by
    rw [List.drop_of_length_le (by rw [List.length_map]; omega)]
    simp
  rw [← e1]
  exact r'
theorem lvZ {g e m : Nat} {k : IntKind} {ns : List Int} (hr : RowL w g e (intsZ k ns)) (ha : aggB P t = true) (hz : szB P t = some m) (hl : ns.length = m) : (loadVar t ⟨g, 0, none⟩).run P w = .ok (.agg (intsZ k ns).toArray) w :=
  lvNc (RowL.cells0 hr) ha (by rw [hz, List.length_map, hl])
end
abbrev plV (p : List Int) : Value := .agg (intsZ .i64 p).toArray
/-- Places with small numbers. -/
def smP (p : List Int) : Prop := p.length = 128 ∧ ∀ (i : Nat) (z : Int), p[i]? = some z → 0 ≤ z ∧ z < 2048
theorem okP.small {p : List Int} (h : okP p) : smP p := ⟨h.len, fun i z hz => h.at hz⟩
theorem check_T (v : Value) (l : List Ex) (w : World) (hv : ReadsT eE 3 w v l) (hlen : l.length ≤ 1048576) (h : vL l) : Calls Tryz.prog 124 #[v] w fun e w' => e = .returned (.int .i64 0) ∧ Below w.heap.size w w' :=
  (check_any v l w hv hlen).mono fun e w' ⟨⟨n, he, hn⟩, hb⟩ => by
    rcases hn with ⟨rfl, _⟩ | ⟨rfl, hn⟩
    · exact ⟨he, hb⟩
    · exact absurd h hn
theorem check_F (v : Value) (l : List Ex) (w : World) (hv : ReadsT eE 3 w v l) (hlen : l.length ≤ 1048576) (h : ¬vL l) : Calls Tryz.prog 124 #[v] w fun e w' => e = .returned (.int .i64 2) ∧ Below w.heap.size w w' :=
  (check_any v l w hv hlen).mono fun e w' ⟨⟨n, he, hn⟩, hb⟩ => by
    rcases hn with ⟨rfl, hn⟩ | ⟨rfl, _⟩
    · exact absurd hn h
    · exact ⟨he, hb⟩
open Go.RowKit
theorem within_int {n lo hi : Int} {w : World} (b : Bool) (h : (decide (lo ≤ n) && decide (n ≤ hi)) = b) : Calls Tryz.prog 123 #[.int .i64 n, .int .i64 lo, .int .i64 hi] w fun e w' => e = .returned (.bool b) ∧ w = w' := by
  subst h
  by_cases h1 : lo ≤ n
  · go_enter Tryz.func123, Tryz.ntmps123
    go_wp2
    go_ret
    exact ⟨by simp [h1], rfl⟩
  · go_enter Tryz.func123, Tryz.ntmps123
    go_wp2
    go_ret
    exact ⟨by simp; omega, rfl⟩
theorem within_u64 {n lo hi : Int} {w : World} (b : Bool) (h : (decide (lo ≤ n) && decide (n ≤ hi)) = b) : Calls Tryz.prog 157 #[.int .u64 n, .int .u64 lo, .int .u64 hi] w fun e w' => e = .returned (.bool b) ∧ w = w' := by
  subst h
  by_cases h1 : lo ≤ n
  · go_enter Tryz.func157, Tryz.ntmps157
    go_wp2
    go_ret
    exact ⟨by simp [h1], rfl⟩
  · go_enter Tryz.func157, Tryz.ntmps157
    go_wp2
    go_ret
    exact ⟨by simp; omega, rfl⟩
/-- A callee that leaves the world alone, in a region that draws its order. -/
theorem quiet_same {P : Program} {f : FuncId} {args : Array Value} {w : World} {n : Nat} {v : Value}
    (h : Calls P f args (w.drewN n) fun e w' => e = .returned v ∧ w.drewN n = w') : Calls P f args (w.drewN n) fun e w'' => e = .returned v ∧ ∃ m, w'' = w.drewN m :=
  h.mono fun _ _ ⟨he, hm⟩ => ⟨he, n, hm.symm⟩
theorem mask_int (a k : Nat) (h1 : 1 ≤ k) (h2 : k + a ≤ 64) : IntKind.u64.wrap (18446744073709551615 / 2 ^ (64 - (k : Int)).toNat * 2 ^ (a : Int).toNat) = (((2 ^ k - 1) * 2 ^ a : Nat) : Int) := by
  have e := mask_val a k h2
  rw [show (64 - (k : Int)).toNat = 64 - k by omega, Int.toNat_natCast, IntKind.wrap_u64, ← e]
  simp
theorem fieldMask_ok (a k : Nat) (h1 : 1 ≤ k) (h2 : k + a ≤ 64) (w : World) : Calls Tryz.prog 94 #[.int .i64 a, .int .i64 k] w fun e w' => e = .returned (.tuple #[.int .u64 ((2 ^ k - 1) * 2 ^ a : Nat), .bool true]) ∧ w = w' := by
  have m := mask_int a k h1 h2
  rw [show (64 - (k : Int)).toNat = 64 - k by omega, Int.toNat_natCast] at m
  have M := Lib.hid m
  clear m
  go_enter Tryz.func94, Tryz.ntmps94
  go_wp2_with (first | (go_at_call 123; refine (within_int true (by simp; omega)).mono ?_; rintro e w' ⟨rfl, rfl⟩))
  go_ret2
  exact ⟨by simp only [← M.out]; rfl, rfl⟩
theorem of_any (x m : Nat) (hx : x < 18446744073709551616) (hm : m < 18446744073709551616) (w : World) : Calls Tryz.prog 95 #[.int .u64 m, .int .u64 x] w fun e w' => e = .returned (.int .u64 (x &&& m : Nat)) ∧ w = w' := by
  have e := Lib.hid (u64_and_nat x m hx hm)
  go_enter Tryz.func95, Tryz.ntmps95
  go_wp2
  go_ret
  exact ⟨ret1 (int_eq e.out), rfl⟩
theorem without_any (x m : Nat) (hx : x < 18446744073709551616) (hm : m < 18446744073709551616) (w : World) : Calls Tryz.prog 158 #[.int .u64 m, .int .u64 x] w fun e w' => e = .returned (.int .u64 (x &&& (18446744073709551615 - m) : Nat)) ∧ w = w' := by
  have e := Lib.hid (u64_andNot_nat x m hx hm)
  go_enter Tryz.func158, Tryz.ntmps158
  go_wp2
  go_ret
  exact ⟨ret1 (int_eq e.out), rfl⟩
theorem field_ok (x a k : Nat) (hx : x < 18446744073709551616) (h1 : 1 ≤ k) (h2 : k + a ≤ 64) (w : World) : Calls Tryz.prog 79 #[.int .u64 x, .int .i64 a, .int .i64 k] w fun e w' => e = .returned (.tuple #[.int .u64 (x / 2 ^ a % 2 ^ k : Nat), .int .i64 0]) ∧ w = w' := by
  have e := Lib.hid (and_mask_div x a k)
  have hm := mask_lt a k h2
  obtain ⟨M, hM⟩ : ∃ M, (2 ^ k - 1) * 2 ^ a = M := ⟨_, rfl⟩
  have f := fieldMask_ok a k h1 h2 w
  rw [hM] at f e hm
  clear hM
  have F := Lib.hid f
  clear f
  go_enter Tryz.func79, Tryz.ntmps79
  go_wp2_with (first | (go_at_call 94; refine F.out.mono ?_; rintro e w' ⟨rfl, rfl⟩) | (go_at_call 95; refine (of_any x M hx hm _).mono ?_; rintro e w' ⟨rfl, rfl⟩))
  go_ret2
  exact ⟨by simp [← e.out], rfl⟩
theorem mask_down (a k : Nat) : (2 ^ k - 1) * 2 ^ a / 2 ^ a = 2 ^ k - 1 := Nat.mul_div_cancel _ (Nat.two_pow_pos a)
theorem with_ok (x a k v : Nat) (hx : x < 18446744073709551616) (h1 : 1 ≤ k) (h2 : k + a ≤ 64) (hv : v < 2 ^ k) (w : World) : Calls Tryz.prog 153 #[.int .u64 x, .int .i64 a, .int .i64 k, .int .u64 v] w fun e w' => e = .returned (.tuple #[.int .u64 (x - x / 2 ^ a % 2 ^ k * 2 ^ a + v * 2 ^ a : Nat), .int .i64 0]) ∧ ∃ n, w' = w.drewN n := by
  have e := Lib.hid (with_val x a k v hx h2 hv)
  have hd := mask_down a k
  have hm := mask_lt a k h2
  have hq : 1 ≤ 2 ^ k := Nat.one_le_two_pow
  have f := fieldMask_ok a k h1 h2 w
  obtain ⟨M, hM⟩ : ∃ M, (2 ^ k - 1) * 2 ^ a = M := ⟨_, rfl⟩
  rw [hM] at f hm hd e
  have hf : (M : Int) / 2 ^ a = ((2 ^ k - 1 : Nat) : Int) := by
    have e : (M : Int) / 2 ^ a = ((M / 2 ^ a : Nat) : Int) := by simp
    rw [e, hd]
  clear hM hd
  have F := Lib.hid f
  have HF := Lib.hid hf
  clear f hf
  go_enter Tryz.func153, Tryz.ntmps153
  go_wp2_with (first | (go_at_call 94; refine F.out.mono ?_; rintro e w' ⟨rfl, rfl⟩) | (go_at_call 157; refine (within_u64 true (by rw [HF.out]; simp; omega)).mono ?_; rintro e w' ⟨rfl, rfl⟩))
  go_quiet ((go_at_call 158; exact quiet_same (without_any x M hx hm _)))
  go_wp2
  go_ret2
  refine ⟨ret1 (congrArg Value.tuple ?_), _, rfl⟩
  have eo := u64_or_nat (x &&& (18446744073709551615 - M)) (v * 2 ^ a % 18446744073709551616) (Nat.lt_of_le_of_lt Nat.and_le_left hx) (Nat.mod_lt _ (by decide))
  have ew : IntKind.u64.wrap (↑v * 2 ^ a) = ((v * 2 ^ a % 18446744073709551616 : Nat) : Int) := by rw [IntKind.wrap_u64]; simp
  rw [e.out] at eo
  rw [← ew] at eo
  rw [← eo]
  rfl
theorem power_any (n : Nat) (h : n ≤ 63) (p : Nat) (hp : Hid (p = 2 ^ n)) (w : World) : Calls Tryz.prog 85 #[.int .i64 n] w fun e w' => e = .returned (.int .u64 p) ∧ w = w' := by
  go_enter Tryz.func85, Tryz.ntmps85
  go_wp2
  go_loop [3, 4] (fun p i => ∃ k q : Nat, k ≤ n ∧ i = .int .i64 k ∧ p = .int .u64 q ∧ q = 2 ^ k) (fun _ i => n - (intOf i).toNat)
  case atStart => exact ⟨0, 1, Nat.zero_le _, rfl, rfl, rfl⟩
  case round =>
    obtain ⟨k, q, hk, rfl, rfl, hq⟩ := hrel
    have H := Lib.hid hq
    clear hq
    by_cases hlt : k < n
    · have hb' : 2 * (q : Int) < 18446744073709551616 := by
        have hb : 2 ^ k ≤ 2 ^ 62 := Nat.pow_le_pow_right (by decide) (by omega)
        have hq := H.out
        omega
      go_wp2
      go_round
      case rel => exact ⟨k + 1, 2 * q, by omega, by go_num, rfl, by rw [H.out, Nat.pow_succ, Nat.mul_comm]⟩
      case measure => simp [intOf]; omega
    · obtain rfl : k = n := by omega
      go_wp2
      go_ret
      exact ⟨ret1 (int_eq (by rw [hp.out, ← H.out])), rfl⟩
set_option linter.unusedVariables false
set_option linter.unusedSimpArgs false
section
variable {P : Program} {w : World} {n : Nat} {D : List Deferred} {M : Slots} {o : Oper} {x y : Operand} {t u : TypeId}
theorem eqI_ints {d : Nat} {e : TypeId} {k kk : IntKind} {xa xb : List Int} (he : P.underlying e = some (.int kk)) : ∀ (is : List Nat), (∀ i ∈ is, i < xa.length ∧ i < xb.length) →
    ∃ cs, eqI (eqC P (d + 1) e) 1 (intsZ k xa) (intsZ k xb) is = some cs ∧ (cs.all id = true ↔ ∀ i ∈ is, xa[i]? = xb[i]?)
  | [], _ => ⟨[], rfl, by simp⟩
  | i :: is, h => by
    obtain ⟨cs, h1, h2⟩ := eqI_ints (d := d) (k := k) he is fun j hj => h j (by simp [hj])
    obtain ⟨ha, hb⟩ := h i (by simp)
    have g : ∀ (zs : List Int) (hz : i < zs.length), ((intsZ k zs).drop (i * 1)).take 1 = [.int k zs[i]] := fun zs hz => by
      rw [Nat.mul_one, List.drop_eq_getElem_cons (by simpa using hz)]
      simp
    refine ⟨[decide (xa[i] = xb[i])] ++ cs, ?_, ?_⟩
    · simp only [eqI, g xa ha, g xb hb, h1]
      simp [eqC, he]
    · simp only [List.all_append, List.all_cons, List.all_nil, id, Bool.and_true, Bool.and_eq_true, decide_eq_true_eq, h2, List.mem_cons, forall_eq_or_imp]
      rw [List.getElem?_eq_getElem ha, List.getElem?_eq_getElem hb]
      simp
theorem eqC_ints {m : Nat} {e : TypeId} {k kk : IntKind} {xa xb : List Int} (hu : P.underlying t = some (.array m e)) (he : P.underlying e = some (.int kk)) (hc : P.cellsOf e = 1) (hm : m ≠ 0) (ha : xa.length = m) (hb : xb.length = m) : ∃ cs, eqC P 9 t (intsZ k xa) (intsZ k xb) = some cs ∧ cs.all id = decide (xa = xb) := by
  obtain ⟨cs, h1, h2⟩ := eqI_ints (P := P) (d := 7) (k := k) (xa := xa) (xb := xb) he (List.range m) fun i hi => by
    have := List.mem_range.1 hi
    omega
  refine ⟨cs, ?_, ?_⟩
  · show eqC P (8 + 1) t _ _ = _
    simp only [eqC, hu, hm, if_false, hc]
    exact h1
  · rw [Bool.eq_iff_iff, h2, decide_eq_true_eq]
    constructor
    · intro h
      refine List.ext_getElem? fun i => ?_
      by_cases hi : i < m
      · exact h i (List.mem_range.2 hi)
      · rw [List.getElem?_eq_none (by omega), List.getElem?_eq_none (by omega)]
    · rintro rfl i _
      rfl
theorem R.neZT {m : Nat} {e : TypeId} {k kk : IntKind} {xa xb : List Int} (ho : o.op = .binOp .neq t x y u) (hx : evM M x = some (.agg (intsZ k xa).toArray)) (hy : evM M y = some (.agg (intsZ k xb).toArray)) (hu : P.underlying t = some (.array m e)) (he : P.underlying e = some (.int kk)) (hc : P.cellsOf e = 1) (hm : m ≠ 0) (ht : aggB P t = true) (hg : P.eqGuardType P.depth t = false) (ha : xa.length = m) (hb : xb.length = m) (h : xa = xb) : Runs P n D M o w (.value (.bool false)) w := by
  obtain ⟨cs, h1, h2⟩ := eqC_ints (k := k) hu he hc hm ha hb
  exact R.neST ho hx hy ht hg h1 h2 h
theorem R.neZF {m : Nat} {e : TypeId} {k kk : IntKind} {xa xb : List Int} (ho : o.op = .binOp .neq t x y u) (hx : evM M x = some (.agg (intsZ k xa).toArray)) (hy : evM M y = some (.agg (intsZ k xb).toArray)) (hu : P.underlying t = some (.array m e)) (he : P.underlying e = some (.int kk)) (hc : P.cellsOf e = 1) (hm : m ≠ 0) (ht : aggB P t = true) (hg : P.eqGuardType P.depth t = false) (ha : xa.length = m) (hb : xb.length = m) (h : xa ≠ xb) : Runs P n D M o w (.value (.bool true)) w := by
  obtain ⟨cs, h1, h2⟩ := eqC_ints (k := k) hu he hc hm ha hb
  exact R.neSF ho hx hy ht hg h1 h2 h
end
/-- What the package's variable holds: the widths of an extent's fields. -/
structure Start (W : World) : Prop where
  c0 : W.cell? ⟨0, 0, none⟩ = some (.int .i64 16)
  c1 : W.cell? ⟨0, 1, none⟩ = some (.int .i64 24)
  c2 : W.cell? ⟨0, 2, none⟩ = some (.int .i64 16)
  pos : 0 < W.heap.size
theorem Start.up {w w' : World} (h : Start w) (b : Below w.heap.size w w') : Start w' := ⟨cell_up h.c0 b, cell_up h.c1 b, cell_up h.c2 b, Nat.lt_of_lt_of_le h.pos b.size⟩
theorem Start.gr {w w' : World} {g : Nat} (h : Start w) (b : w.grownBy w' (some g)) (hne : 0 < g) : Start w' := ⟨cell_gr h.c0 b (by omega), cell_gr h.c1 b (by omega), cell_gr h.c2 b (by omega), Nat.lt_of_lt_of_le h.pos b.size⟩
theorem Start.cells {w : World} (h : Start w) : Cells w ⟨0, 0, none⟩ [.int .i64 16, .int .i64 24, .int .i64 16] := fun j u hu => by
  rw [Addr.add_lit]
  match j, hu with
  | 0, hu => cases hu; exact h.c0
  | 1, hu => cases hu; exact h.c1
  | 2, hu => cases hu; exact h.c2
theorem with_a (f : Nat) (w : World) (hf : f < 65536) : Calls Tryz.prog 153 #[.int .u64 0, .int .i64 0, .int .i64 16, .int .u64 (f : Int)] w fun e w' => e = .returned (.tuple #[.int .u64 (f : Int), .int .i64 0]) ∧ Below w.heap.size w w' :=
  (with_ok 0 0 16 f (by omega) (by omega) (by omega) (by omega) w).mono fun e w' ⟨h, n, hw⟩ => by
    subst hw
    refine ⟨?_, Below.drewN (Below.refl _ _) n⟩
    rw [h]
    simp
theorem with_b (x d : Nat) (w : World) (hx : x < 65536) (hd : d < 16777216) : Calls Tryz.prog 153 #[.int .u64 (x : Int), .int .i64 16, .int .i64 24, .int .u64 (d : Int)] w fun e w' => e = .returned (.tuple #[.int .u64 ((x + d * 65536 : Nat) : Int), .int .i64 0]) ∧ Below w.heap.size w w' :=
  (with_ok x 16 24 d (by omega) (by omega) (by omega) (by omega) w).mono fun e w' ⟨h, n, hw⟩ => by
    subst hw
    refine ⟨?_, Below.drewN (Below.refl _ _) n⟩
    rw [h, show x / 2 ^ 16 % 2 ^ 24 = 0 by omega]
    simp
theorem with_c (x k : Nat) (w : World) (hx : x < 1099511627776) (hk : k < 65536) : Calls Tryz.prog 153 #[.int .u64 (x : Int), .int .i64 40, .int .i64 16, .int .u64 (k : Int)] w fun e w' => e = .returned (.tuple #[.int .u64 ((x + k * 1099511627776 : Nat) : Int), .int .i64 0]) ∧ Below w.heap.size w w' :=
  (with_ok x 40 16 k (by omega) (by omega) (by omega) (by omega) w).mono fun e w' ⟨h, n, hw⟩ => by
    subst hw
    refine ⟨?_, Below.drewN (Below.refl _ _) n⟩
    rw [h, show x / 2 ^ 40 % 2 ^ 16 = 0 by omega]
    simp
/-- An extent's word. -/
def packN (f d k : Nat) : Nat := f + d * 65536 + k * 1099511627776
set_option maxRecDepth 100000 in
set_option maxHeartbeats 8000000 in
theorem pack_any (f d k g : Nat) (w : World) (hs : Start w) (hr : RowL w g 3 [.int .i64 (f : Int), .int .i64 (d : Int), .int .i64 (k : Int)]) (hb : f < 65536 ∧ d < 16777216 ∧ k < 65536) : Calls Tryz.prog 146 #[.slice (some ⟨g, 0, none⟩) 3 3] w fun e w' => e = .returned (.int .u64 (packN f d k : Int)) ∧ Below w.heap.size w w' := by
  have q := Below.refl w.heap.size w
  obtain ⟨c0, c1, c2, hp⟩ := hs
  refine X.fn Tryz.func146 rfl (n := 32) rfl rfl ?_
  refine Zr ?_; refine Za ?_; refine Zq ?_; refine Zr ?_; refine Za ?_; refine Za ?_; refine Zq ?_; refine Zc ?_; refine Zr ?_; refine Zm ?_; refine Zn ?_; refine Zm ?_; refine Zq ?_; refine CC.block ?_
  refine CC.loopN 6 ?_
  refine RN.step ?_
  refine Zr ?_; refine ZltT ?_; refine Zq ?_; refine Zc ?_; refine ZY ?_; refine ZK ?_; refine ZT ?_; refine Zc ?_; refine CC.block ?_; refine Zr ?_; refine Zm ?_; refine Zi ?_; refine Zl hr ?_; refine Za ?_; refine Za ?_; refine Zq ?_; refine Zr ?_; refine Zm ?_; refine Zm ?_; refine Zm ?_
  refine LL.val (R.index rfl rfl rfl (I.ixA1c rfl rfl (by first | omega | decide))) rfl rfl rfl ?_
  refine Zk ?_; refine Zm ?_
  refine LL.val (R.convI rfl rfl rfl rfl (wrapU (by omega) (by omega))) rfl rfl rfl ?_
  refine Zy (R.call rfl rfl rfl) (with_a _ _ (by first | assumption | omega)) ?_
  rintro e W2 ⟨rfl, b1⟩
  refine ⟨_, rfl, ?_⟩; have zb1 := b1.size; replace hr := hr.up b1; replace q := Zu q b1; replace c0 := cell_up c0 b1; replace c1 := cell_up c1 b1; replace c2 := cell_up c2 b1; refine Zm ?_; refine Zx ?_; refine Zx ?_; refine Za ?_; refine Zq ?_; refine CC.region ?_; refine Zm ?_; refine Zm ?_
  refine LL.val (R.index rfl rfl rfl (I.ixA1c rfl rfl (by first | omega | decide))) rfl rfl rfl ?_
  refine Zk ?_
  refine LL.val (R.addIz (z := 16) rfl rfl rfl (by decide) (by decide)) rfl rfl rfl ?_
  refine Za ?_; refine ZL ?_; refine EE.inN ?_; refine ZT ?_; refine CC.region ?_
  refine LL.val (R.addIz (z := 1) rfl rfl rfl (by decide) (by decide)) rfl rfl rfl ?_
  refine Zm ?_; refine ZL ?_; refine EE.again ?_
  refine RN.step ?_
  refine Zr ?_; refine ZltT ?_; refine Zq ?_; refine Zc ?_; refine ZY ?_; refine ZK ?_; refine ZT ?_; refine Zc ?_; refine CC.block ?_; refine Zr ?_; refine Zm ?_; refine Zi ?_; refine Zl hr ?_; refine Za ?_; refine Za ?_; refine Zq ?_; refine Zr ?_; refine Zm ?_; refine Zm ?_; refine Zm ?_
  refine LL.val (R.index rfl rfl rfl (I.ixA1c rfl rfl (by first | omega | decide))) rfl rfl rfl ?_
  refine Zk ?_; refine Zm ?_
  refine LL.val (R.convI rfl rfl rfl rfl (wrapU (by omega) (by omega))) rfl rfl rfl ?_
  refine Zy (R.call rfl rfl rfl) (with_b _ _ _ (by first | assumption | omega) (by first | assumption | omega)) ?_
  rintro e W5 ⟨rfl, b4⟩
  refine ⟨_, rfl, ?_⟩; have zb4 := b4.size; replace hr := hr.up b4; replace q := Zu q b4; replace c0 := cell_up c0 b4; replace c1 := cell_up c1 b4; replace c2 := cell_up c2 b4; refine Zm ?_; refine Zx ?_; refine Zx ?_; refine Za ?_; refine Zq ?_; refine CC.region ?_; refine Zm ?_; refine Zm ?_
  refine LL.val (R.index rfl rfl rfl (I.ixA1c rfl rfl (by first | omega | decide))) rfl rfl rfl ?_
  refine Zk ?_
  refine LL.val (R.addIz (z := 40) rfl rfl rfl (by decide) (by decide)) rfl rfl rfl ?_
  refine Za ?_; refine ZL ?_; refine EE.inN ?_; refine ZT ?_; refine CC.region ?_
  refine LL.val (R.addIz (z := 2) rfl rfl rfl (by decide) (by decide)) rfl rfl rfl ?_
  refine Zm ?_; refine ZL ?_; refine EE.again ?_
  refine RN.step ?_
  refine Zr ?_; refine ZltT ?_; refine Zq ?_; refine Zc ?_; refine ZY ?_; refine ZK ?_; refine ZT ?_; refine Zc ?_; refine CC.block ?_; refine Zr ?_; refine Zm ?_; refine Zi ?_; refine Zl hr ?_; refine Za ?_; refine Za ?_; refine Zq ?_; refine Zr ?_; refine Zm ?_; refine Zm ?_; refine Zm ?_
  refine LL.val (R.index rfl rfl rfl (I.ixA1c rfl rfl (by first | omega | decide))) rfl rfl rfl ?_
  refine Zk ?_; refine Zm ?_
  refine LL.val (R.convI rfl rfl rfl rfl (wrapU (by omega) (by omega))) rfl rfl rfl ?_
  refine Zy (R.call rfl rfl rfl) (with_c _ _ _ (by first | assumption | omega) (by first | assumption | omega)) ?_
  rintro e W8 ⟨rfl, b7⟩
  refine ⟨_, rfl, ?_⟩; have zb7 := b7.size; replace hr := hr.up b7; replace q := Zu q b7; replace c0 := cell_up c0 b7; replace c1 := cell_up c1 b7; replace c2 := cell_up c2 b7; refine Zm ?_; refine Zx ?_; refine Zx ?_; refine Za ?_; refine Zq ?_; refine CC.region ?_; refine Zm ?_; refine Zm ?_
  refine LL.val (R.index rfl rfl rfl (I.ixA1c rfl rfl (by first | omega | decide))) rfl rfl rfl ?_
  refine Zk ?_
  refine LL.val (R.addIz (z := 56) rfl rfl rfl (by decide) (by decide)) rfl rfl rfl ?_
  refine Za ?_; refine ZL ?_; refine EE.inN ?_; refine ZT ?_; refine CC.region ?_
  refine LL.val (R.addIz (z := 3) rfl rfl rfl (by decide) (by decide)) rfl rfl rfl ?_
  refine Zm ?_; refine ZL ?_; refine EE.again ?_
  refine RN.step ?_
  refine Zr ?_; refine ZltF ?_; refine Zq ?_; refine Zc ?_; refine ZN ?_; refine CC.exit ?_; refine EE.thenX ?_; refine EE.thenX ?_; refine EE.inX ?_; refine ZT ?_; refine Zr ?_; refine Zm ?_; refine Za ?_; refine Zq ?_; refine ZR ?_; refine EE.ret _ rfl rfl ?_
  exact ⟨rfl, q⟩
--C words_Field | {1=0} fld_a _ @w @p | S
theorem fld_a (x : Nat) (w : World) (hx : x < 18446744073709551616) : Calls Tryz.prog 79 #[.int .u64 (x : Int), .int .i64 0, .int .i64 16] w fun e w' => e = .returned (.tuple #[.int .u64 ((x % 65536 : Nat) : Int), .int .i64 0]) ∧ w = w' := by
  have h := field_ok x 0 16 hx (by omega) (by omega) w
  rw [show x / 2 ^ 0 % 2 ^ 16 = x % 65536 by simp] at h
  exact h
theorem fld_b (x : Nat) (w : World) (hx : x < 18446744073709551616) : Calls Tryz.prog 79 #[.int .u64 (x : Int), .int .i64 16, .int .i64 24] w fun e w' => e = .returned (.tuple #[.int .u64 ((x / 65536 % 16777216 : Nat) : Int), .int .i64 0]) ∧ w = w' := by
  have h := field_ok x 16 24 hx (by omega) (by omega) w
  rw [show x / 2 ^ 16 % 2 ^ 24 = x / 65536 % 16777216 by simp] at h
  exact h
theorem fld_c (x : Nat) (w : World) (hx : x < 18446744073709551616) : Calls Tryz.prog 79 #[.int .u64 (x : Int), .int .i64 40, .int .i64 16] w fun e w' => e = .returned (.tuple #[.int .u64 ((x / 1099511627776 % 65536 : Nat) : Int), .int .i64 0]) ∧ w = w' := by
  have h := field_ok x 40 16 hx (by omega) (by omega) w
  rw [show x / 2 ^ 40 % 2 ^ 16 = x / 1099511627776 % 65536 by simp] at h
  exact h
/-- The extent that a word tells. -/
def unpE (x : Nat) : Ex := (((x % 65536 : Nat) : Int), ((x / 65536 % 16777216 : Nat) : Int), ((x / 1099511627776 % 65536 : Nat) : Int))
set_option maxRecDepth 100000 in
set_option maxHeartbeats 8000000 in
theorem unpack_any (x : Nat) (w : World) (hs : Start w) (hx : x < 18446744073709551616) : Calls Tryz.prog 147 #[.int .u64 (x : Int)] w fun e w' => e = .returned (exV (unpE x)) ∧ Below w.heap.size w w' := by
  have q := Below.refl w.heap.size w
  have hG := hs.cells
  obtain ⟨c0, c1, c2, hp⟩ := hs
  refine X.fn Tryz.func147 rfl (n := 36) rfl rfl ?_
  refine Zr ?_
  refine LL.alloc ([.int .i64 0, .int .i64 0, .int .i64 0]) rfl rfl rfl rfl rfl ?_
  intro W2 g3 eg3 r4 z5 b1
  replace q := Zu q b1; replace hG := hG.up b1; replace c0 := cell_up c0 b1; replace c1 := cell_up c1 b1; replace c2 := cell_up c2 b1; refine Zq ?_; refine Zr ?_; have l6 := r4.lt
  refine LL.alloc ([.int .i64 0, .int .i64 0, .int .i64 0]) rfl rfl rfl rfl rfl ?_
  intro W8 g9 eg9 r10 z11 b7
  replace r4 := r4.up b7; replace q := Zu q b7; replace hG := hG.up b7; replace c0 := cell_up c0 b7; replace c1 := cell_up c1 b7; replace c2 := cell_up c2 b7; refine Zq ?_; refine Zr ?_; refine Za ?_; refine Zq ?_; refine Zc ?_; refine Zr ?_
  refine LL.val (R.load rfl rfl (I.ldNc (by assumption) rfl rfl)) rfl rfl rfl ?_
  refine Zm ?_; refine Zq ?_; refine CC.block ?_
  refine CC.loopN 6 ?_
  refine RN.step ?_
  refine Zr ?_; refine ZltT ?_; refine Zq ?_; refine Zc ?_; refine ZY ?_; refine ZK ?_; refine ZT ?_; refine Zc ?_; refine CC.block ?_; refine Zr ?_; refine Zm ?_
  refine LL.val (R.ixVc rfl rfl rfl rfl rfl rfl rfl rfl) rfl rfl rfl ?_
  refine Za ?_; refine Za ?_; refine Zq ?_; refine Zr ?_; refine Zm ?_; refine Zm ?_; refine Zm ?_
  refine Zy (R.call rfl rfl rfl) (fld_a _ _ (by first | assumption | omega)) ?_
  rintro e W' ⟨rfl, rfl⟩
  refine ⟨_, rfl, ?_⟩; refine Zm ?_; refine Zx ?_; refine Zx ?_; refine Za ?_; refine Za ?_; refine Zq ?_; refine Zr ?_; refine Zm ?_; refine Zm ?_
  refine LL.val (R.convI rfl rfl rfl rfl (wrapI (by omega) (by omega))) rfl rfl rfl ?_
  refine LL.val (R.index rfl rfl rfl (I.ixA1c rfl rfl (by first | omega | decide))) rfl rfl rfl ?_
  refine LL.store rfl rfl rfl rfl r10 (by exact Nat.le_of_ble_eq_true rfl) rfl rfl rfl rfl ?_
  intro W13 r14 b12 z15
  have hlb12 := r10.lt
  replace r14 : RowL W13 _ 202 [.int .i64 ↑(x % 65536), .int .i64 0, .int .i64 0] := r14
  clear r10
  replace r4 := Zd r4 b12; replace q := Zg q b12
  replace hG := hG.gr b12 (by omega)
  replace c0 := Ze c0 b12; replace c1 := Ze c1 b12; replace c2 := Ze c2 b12
  have r10 := r14
  clear r14
  refine Zq ?_; refine CC.region ?_; refine Zm ?_; refine Zm ?_
  refine LL.val (R.addIz (z := 16) rfl rfl rfl (by decide) (by decide)) rfl rfl rfl ?_
  refine Za ?_; refine ZL ?_; refine EE.inN ?_; refine ZT ?_; refine CC.region ?_
  refine LL.val (R.addIz (z := 1) rfl rfl rfl (by decide) (by decide)) rfl rfl rfl ?_
  refine Zm ?_; refine ZL ?_; refine EE.again ?_
  refine RN.step ?_
  refine Zr ?_; refine ZltT ?_; refine Zq ?_; refine Zc ?_; refine ZY ?_; refine ZK ?_; refine ZT ?_; refine Zc ?_; refine CC.block ?_; refine Zr ?_; refine Zm ?_
  refine LL.val (R.ixVc rfl rfl rfl rfl rfl rfl rfl rfl) rfl rfl rfl ?_
  refine Za ?_; refine Za ?_; refine Zq ?_; refine Zr ?_; refine Zm ?_; refine Zm ?_; refine Zm ?_
  refine Zy (R.call rfl rfl rfl) (fld_b _ _ (by first | assumption | omega)) ?_
  rintro e W' ⟨rfl, rfl⟩
  refine ⟨_, rfl, ?_⟩; refine Zm ?_; refine Zx ?_; refine Zx ?_; refine Za ?_; refine Za ?_; refine Zq ?_; refine Zr ?_; refine Zm ?_; refine Zm ?_
  refine LL.val (R.convI rfl rfl rfl rfl (wrapI (by omega) (by omega))) rfl rfl rfl ?_
  refine LL.val (R.index rfl rfl rfl (I.ixA1c rfl rfl (by first | omega | decide))) rfl rfl rfl ?_
  refine LL.store rfl rfl rfl rfl r10 (by exact Nat.le_of_ble_eq_true rfl) rfl rfl rfl rfl ?_
  intro W17 r18 b16 z19
  have hlb16 := r10.lt
  replace r18 : RowL W17 _ 202 [.int .i64 ↑(x % 65536), .int .i64 ↑(x / 65536 % 16777216), .int .i64 0] := r18
  clear r10
  replace r4 := Zd r4 b16; replace q := Zg q b16
  replace hG := hG.gr b16 (by omega)
  replace c0 := Ze c0 b16; replace c1 := Ze c1 b16; replace c2 := Ze c2 b16
  have r10 := r18
  clear r18
  refine Zq ?_; refine CC.region ?_; refine Zm ?_; refine Zm ?_
  refine LL.val (R.addIz (z := 40) rfl rfl rfl (by decide) (by decide)) rfl rfl rfl ?_
  refine Za ?_; refine ZL ?_; refine EE.inN ?_; refine ZT ?_; refine CC.region ?_
  refine LL.val (R.addIz (z := 2) rfl rfl rfl (by decide) (by decide)) rfl rfl rfl ?_
  refine Zm ?_; refine ZL ?_; refine EE.again ?_
  refine RN.step ?_
  refine Zr ?_; refine ZltT ?_; refine Zq ?_; refine Zc ?_; refine ZY ?_; refine ZK ?_; refine ZT ?_; refine Zc ?_; refine CC.block ?_; refine Zr ?_; refine Zm ?_
  refine LL.val (R.ixVc rfl rfl rfl rfl rfl rfl rfl rfl) rfl rfl rfl ?_
  refine Za ?_; refine Za ?_; refine Zq ?_; refine Zr ?_; refine Zm ?_; refine Zm ?_; refine Zm ?_
  refine Zy (R.call rfl rfl rfl) (fld_c _ _ (by first | assumption | omega)) ?_
  rintro e W' ⟨rfl, rfl⟩
  refine ⟨_, rfl, ?_⟩; refine Zm ?_; refine Zx ?_; refine Zx ?_; refine Za ?_; refine Za ?_; refine Zq ?_; refine Zr ?_; refine Zm ?_; refine Zm ?_
  refine LL.val (R.convI rfl rfl rfl rfl (wrapI (by omega) (by omega))) rfl rfl rfl ?_
  refine LL.val (R.index rfl rfl rfl (I.ixA1c rfl rfl (by first | omega | decide))) rfl rfl rfl ?_
  refine LL.store rfl rfl rfl rfl r10 (by exact Nat.le_of_ble_eq_true rfl) rfl rfl rfl rfl ?_
  intro W21 r22 b20 z23
  have hlb20 := r10.lt
  replace r22 : RowL W21 _ 202 [.int .i64 ↑(x % 65536), .int .i64 ↑(x / 65536 % 16777216), .int .i64 ↑(x / 1099511627776 % 65536)] := r22
  clear r10
  replace r4 := Zd r4 b20; replace q := Zg q b20
  replace hG := hG.gr b20 (by omega)
  replace c0 := Ze c0 b20; replace c1 := Ze c1 b20; replace c2 := Ze c2 b20
  have r10 := r22
  clear r22
  refine Zq ?_; refine CC.region ?_; refine Zm ?_; refine Zm ?_
  refine LL.val (R.addIz (z := 56) rfl rfl rfl (by decide) (by decide)) rfl rfl rfl ?_
  refine Za ?_; refine ZL ?_; refine EE.inN ?_; refine ZT ?_; refine CC.region ?_
  refine LL.val (R.addIz (z := 3) rfl rfl rfl (by decide) (by decide)) rfl rfl rfl ?_
  refine Zm ?_; refine ZL ?_; refine EE.again ?_
  refine RN.step ?_
  refine Zr ?_; refine ZltF ?_; refine Zq ?_; refine Zc ?_; refine ZN ?_; refine CC.exit ?_; refine EE.thenX ?_; refine EE.thenX ?_; refine EE.inX ?_; refine ZT ?_; refine Zr ?_
  refine LL.val (R.index rfl rfl rfl (I.ixA1c rfl rfl (by first | omega | decide))) rfl rfl rfl ?_
  refine Zl r10 ?_
  refine LL.val (R.index rfl rfl rfl (I.ixA1c rfl rfl (by first | omega | decide))) rfl rfl rfl ?_
  refine Zl r10 ?_
  refine LL.val (R.index rfl rfl rfl (I.ixA1c rfl rfl (by first | omega | decide))) rfl rfl rfl ?_
  refine Zl r10 ?_
  refine LL.val (R.buildV rfl rfl (v := .agg #[Value.int IntKind.i64 ↑(x % 65536), Value.int IntKind.i64 ↑(x / 65536 % 16777216), Value.int IntKind.i64 ↑(x / 1099511627776 % 65536)]) (fun _ => by kernel_rfl)) rfl rfl rfl ?_
  refine LL.storeN (vs := [.int .i64 ↑(x % 65536), .int .i64 ↑(x / 65536 % 16777216), .int .i64 ↑(x / 1099511627776 % 65536)]) rfl rfl rfl rfl r4 (by exact Nat.le_of_ble_eq_true rfl) (ones_of rfl) rfl rfl ?_
  intro W25 r26 b24 z27
  have hlb24 := r4.lt
  replace r26 : RowL W25 _ 124 [.int .i64 ↑(x % 65536), .int .i64 ↑(x / 65536 % 16777216), .int .i64 ↑(x / 1099511627776 % 65536)] := r26
  clear r4
  replace q := Zg q b24
  replace hG := hG.gr b24 (by omega)
  replace c0 := Ze c0 b24; replace c1 := Ze c1 b24; replace c2 := Ze c2 b24; replace r10 := Zd r10 b24
  have r4 := r26
  clear r26
  refine Zq ?_; refine ZR ?_
  refine EE.retC rfl rfl (lvNc (RowL.cells0 (by assumption)) (by rfl) (by rfl)) ?_
  exact ⟨rfl, q⟩
/-- A map's words. -/
def pkZ (x : Ex) : Int := x.1 + x.2.1 * 65536 + x.2.2 * 1099511627776
def wrdZ (l : List Ex) : List Int := l.map pkZ ++ List.replicate (10 - l.length) 0
theorem wrdZ_len {l : List Ex} (h : l.length ≤ 10) : (wrdZ l).length = 10 := by simp [wrdZ]; omega
theorem wrdZ_set {l : List Ex} {i : Nat} {x : Ex} (hl : l.length ≤ 10) (hx : l[i]? = some x) : (wrdZ (l.take i)).set i (pkZ x) = wrdZ (l.take (i + 1)) := by
  have hi := (List.getElem?_eq_some_iff.1 hx).1
  unfold wrdZ
  have e1 : (l.take i).length = i := by simp; omega
  have e2 : (l.take (i + 1)).length = i + 1 := by simp; omega
  rw [e1, e2, List.set_append_right _ _ (by simp; omega), List.length_map, e1, Nat.sub_self, show 10 - i = (10 - (i + 1)) + 1 by omega, List.replicate_succ, List.set_cons_zero, List.take_add_one, hx]
  simp
theorem pkZ_nat {x : Ex} (h : mayE x) : ∃ f d k : Nat, x = ((f : Int), (d : Int), (k : Int)) ∧ f < 65536 ∧ d < 16777216 ∧ k < 65536 := by
  unfold mayE at h
  refine ⟨x.1.toNat, x.2.1.toNat, x.2.2.toNat, ?_, by omega, by omega, by omega⟩
  obtain ⟨a, b, c⟩ := x
  simp only at h
  refine Prod.ext ?_ (Prod.ext ?_ ?_) <;> simp only <;> omega
abbrev wdV (ws : List Int) : Value := .agg (intsZ .u64 ws).toArray
set_option maxRecDepth 100000 in
set_option maxHeartbeats 8000000 in
theorem words_F (l : List Ex) (v : Value) (w : World) (hv : ReadsT eE 3 w v l) (hlen : l.length ≤ 1048576) (h : ¬vL l) : Calls Tryz.prog 125 #[v] w fun e w' => e = .returned (.tuple #[wdV (List.replicate 10 0), .int .i64 2]) ∧ Below w.heap.size w w' := by
  have q := Below.refl w.heap.size w
  refine X.fn Tryz.func125 rfl (n := 30) rfl rfl ?_
  refine Zr ?_
  refine LL.alloc (intsZ .u64 (List.replicate 10 0)) rfl rfl rfl rfl rfl ?_
  intro W2 g3 eg3 r4 z5 b1
  replace hv := hv.up b1; replace q := Zu q b1; refine Za ?_; refine Zq ?_; refine Zr ?_; have l6 := r4.lt
  refine LL.alloc (intsZ .u64 (List.replicate 10 0)) rfl rfl rfl rfl rfl ?_
  intro W8 g9 eg9 r10 z11 b7
  replace r4 := r4.up b7; replace hv := hv.up b7; replace q := Zu q b7; refine Zq ?_; refine Zc ?_; refine Zr ?_; refine Zm ?_
  refine Zy (R.call rfl rfl rfl) (check_F _ _ _ (by first | assumption | omega) (by first | assumption | omega) (by first | assumption | omega)) ?_
  rintro e W13 ⟨rfl, b12⟩
  refine ⟨_, rfl, ?_⟩; have zb12 := b12.size; replace r10 := r10.up b12; replace r4 := r4.up b12; replace hv := hv.up b12; replace q := Zu q b12; refine ZneT ?_; refine Zq ?_; refine ZY ?_; refine Zr ?_
  refine LL.val (R.loadZ rfl rfl r10 rfl rfl (by first | assumption | exact List.length_replicate | exact plL_len _ | exact plOf_len _ | simp)) rfl rfl rfl ?_
  refine LL.storeAZ rfl rfl rfl rfl (by first | assumption | exact List.length_replicate | exact plL_len _ | exact plOf_len _ | simp) r4 (by first | (rw [List.length_map]; exact (by first | assumption | exact List.length_replicate | exact plL_len _ | exact plOf_len _ | simp)) | simp) rfl rfl ?_
  intro W16 r17 b15 z18
  have hlb15 := r4.lt
  replace r17 : RowL W16 _ 106 [(fun z => Value.int IntKind.u64 z) 0, (fun z => Value.int IntKind.u64 z) 0, (fun z => Value.int IntKind.u64 z) 0, (fun z => Value.int IntKind.u64 z) 0, (fun z => Value.int IntKind.u64 z) 0, (fun z => Value.int IntKind.u64 z) 0, (fun z => Value.int IntKind.u64 z) 0, (fun z => Value.int IntKind.u64 z) 0, (fun z => Value.int IntKind.u64 z) 0, (fun z => Value.int IntKind.u64 z) 0] := r17
  clear r4
  replace r10 := Zd r10 b15; replace q := Zg q b15
  have r4 := r17
  clear r17
  refine Za ?_; refine Zq ?_; refine ZR ?_; refine EE.thenR ?_
  refine EE.ret2 rfl ⟨_, rfl, lvNc (RowL.cells0 (by assumption)) (by rfl) (by rfl)⟩ rfl ?_
  exact ⟨rfl, q⟩
set_option maxRecDepth 100000 in
set_option maxHeartbeats 8000000 in
theorem words_T (l : List Ex) (v : Value) (w : World) (hs : Start w) (hv : ReadsT eE 3 w v l) (h : vL l) : Calls Tryz.prog 125 #[v] w fun e w' => e = .returned (.tuple #[wdV (wrdZ l), .int .i64 0]) ∧ Below w.heap.size w w' := by
  have q := Below.refl w.heap.size w
  have hlen : l.length ≤ 1048576 := by have := h.1; omega
  obtain ⟨N, hN⟩ : ∃ N, l.length = N := ⟨_, rfl⟩
  have hN10 : N ≤ 10 := by have := h.1; omega
  obtain ⟨a, cap, rfl, hcap⟩ := hv.form hN
  have hvF : ∀ W, Below w.heap.size w W → ReadsT eE 3 W (.slice a N cap) l := fun W hb => hv.up hb
  have hp := hs.pos
  have hsF : ∀ W, Below w.heap.size w W → Start W := fun W hb => hs.up hb
  clear hs
  refine X.fn Tryz.func125 rfl (n := 30) rfl rfl ?_
  refine Zr ?_
  refine LL.alloc (intsZ .u64 (List.replicate 10 0)) rfl rfl rfl rfl rfl ?_
  intro W2 g3 eg3 r4 z5 b1
  replace q := Zu q b1; replace hv := hv.up b1; refine Za ?_; refine Zq ?_; refine Zr ?_; have l6 := r4.lt
  refine LL.alloc (intsZ .u64 (List.replicate 10 0)) rfl rfl rfl rfl rfl ?_
  intro W8 g9 eg9 r10 z11 b7
  replace r4 := r4.up b7; replace q := Zu q b7; replace hv := hv.up b7; refine Zq ?_; refine Zc ?_; refine Zr ?_; refine Zm ?_
  refine Zy (R.call rfl rfl rfl) (check_T _ _ _ (by first | assumption | omega) (by first | assumption | omega) (by first | assumption | omega)) ?_
  rintro e W13 ⟨rfl, b12⟩
  refine ⟨_, rfl, ?_⟩; have zb12 := b12.size; replace r10 := r10.up b12; replace r4 := r4.up b12; replace q := Zu q b12; replace hv := hv.up b12; refine ZneF ?_; refine Zq ?_; refine ZN ?_; refine ZK ?_; refine ZT ?_; refine Zc ?_; refine Zr ?_; refine Zm ?_; refine Zn ?_; refine Zm ?_; refine Zq ?_; refine CC.block ?_; have yq := q.size
  have rc : RowL W13 g9 106 (intsZ .u64 (wrdZ (l.take 0))) := r10
  refine CC.loop (α := Nat) (fun i => [(2, .pointer (some ⟨g3, 0, none⟩)), (4, .pointer (some ⟨g9, 0, none⟩)), (11, .slice a N cap), (12, .int .i64 (N : Int)), (13, .int .i64 (i : Int))]) (fun i W => i ≤ N ∧ Below w.heap.size w W ∧ g9 < W.heap.size ∧ RowL W g3 106 (intsZ .u64 (List.replicate 10 0)) ∧ RowL W g9 106 (intsZ .u64 (wrdZ (l.take i)))) (fun i => N - i) 0 ⟨rfl, rfl, rfl, rfl, rfl, trivial⟩ ⟨by omega, q, rc.lt, r4, rc⟩ ?_
  clear q r4 r10 rc hv
  rintro i W ⟨hi, q, l9, r4, r10⟩
  show CC none Tryz.prog _ 30 [] (sl [(2, .pointer (some ⟨g3, 0, none⟩)), (4, .pointer (some ⟨g9, 0, none⟩)), (11, .slice a N cap), (12, .int .i64 (N : Int)), (13, .int .i64 (i : Int))]) _ W
  have yq := q.size
  have hwl : (wrdZ (l.take i)).length = 10 := wrdZ_len (by simp; omega)
  by_cases hlt : i < N
  case neg =>
    obtain rfl : i = N := by omega
    rw [show l.take i = l from List.take_of_length_le (by omega)] at r10 hwl
    refine Zr ?_; refine ZltF ?_; refine Zq ?_; refine Zc ?_; refine ZN ?_; refine CC.exit ?_; refine EE.thenX ?_; refine EE.thenX ?_; refine EE.inX ?_; refine ZT ?_; refine Zr ?_
    refine LL.val (R.loadZ rfl rfl r10 rfl rfl (by first | assumption | exact List.length_replicate | exact plL_len _ | exact plOf_len _ | simp)) rfl rfl rfl ?_
    refine LL.storeAZ rfl rfl rfl rfl (by first | assumption | exact List.length_replicate | exact plL_len _ | exact plOf_len _ | simp) r4 (by first | (rw [List.length_map]; exact (by first | assumption | exact List.length_replicate | exact plL_len _ | exact plOf_len _ | simp)) | simp) rfl rfl ?_
    intro Wa2 ra3 ba1 za4
    have hlba1 := r4.lt
    clear r4
    replace q := Zg q ba1; replace r10 := Zd r10 ba1
    have r4 := ra3
    clear ra3
    refine Za ?_; refine Zq ?_; refine ZR ?_
    refine EE.ret2 rfl ⟨_, rfl, lvZ (by assumption) rfl rfl (by first | assumption | exact List.length_replicate | exact plL_len _ | exact plOf_len _ | simp)⟩ rfl ?_
    exact ⟨rfl, q⟩
  obtain ⟨x, hx⟩ : ∃ x, l[i]? = some x := ⟨_, List.getElem?_eq_getElem (by omega)⟩
  have hmx := h.2.1 x (List.mem_of_getElem? hx)
  obtain ⟨bk, off, rfl, hbk, hcs⟩ := (hvF W q).get eEnc hx
  have hset := wrdZ_set h.1 hx
  obtain ⟨f, d, k, rfl, hf, hd, hk⟩ := pkZ_nat hmx
  have hpk : pkZ ((f : Int), (d : Int), (k : Int)) = ((packN f d k : Nat) : Int) := by unfold pkZ packN; simp only; omega
  rw [hpk] at hset
  have hcs : Cells W ⟨bk, off + i * 3, none⟩ [.int .i64 (f : Int), .int .i64 (d : Int), .int .i64 (k : Int)] := hcs
  have hs := hsF W q
  have hb3 : f < 65536 ∧ d < 16777216 ∧ k < 65536 := ⟨hf, hd, hk⟩
  have hp2 := hs.pos
  refine Zr ?_; refine ZltT ?_; refine Zq ?_; refine Zc ?_; refine ZY ?_; refine ZK ?_; refine ZT ?_; refine Zc ?_; refine CC.block ?_; refine Zr ?_; refine Zm ?_
  refine LL.val (R.index rfl rfl rfl (I.ixS rfl (by omega))) rfl rfl rfl ?_
  refine LL.val (R.load rfl rfl (I.ldNc (by assumption) rfl rfl)) rfl rfl rfl ?_
  have lb1 := r4.lt; have lb2 := r10.lt
  refine LL.alloc ([.int .i64 0, .int .i64 0, .int .i64 0]) rfl rfl rfl rfl rfl ?_
  intro Wb4 gb5 egb5 rb6 zb7 bb3
  replace q := Zu q bb3; replace r4 := r4.up bb3; replace r10 := r10.up bb3; replace hcs := hcs.up bb3; replace hs := hs.up bb3; refine Za ?_
  refine LL.storeN (vs := [.int .i64 ↑f, .int .i64 ↑d, .int .i64 ↑k]) rfl rfl rfl rfl rb6 (by exact Nat.le_of_ble_eq_true rfl) (ones_of rfl) rfl rfl ?_
  intro Wb9 rb10 bb8 zb11
  have hlbb8 := rb6.lt
  replace rb10 : RowL Wb9 _ 124 [.int .i64 ↑f, .int .i64 ↑d, .int .i64 ↑k] := rb10
  clear rb6
  replace q := Zg q bb8; replace r4 := Zd r4 bb8; replace r10 := Zd r10 bb8
  replace hcs := hcs.gr bb8 (by omega)
  replace hs := hs.gr bb8 (by omega)
  have rb6 := rb10
  clear rb10
  refine Zq ?_; refine CC.region ?_; refine Zm ?_; refine Zf ?_; refine Zl rb6 ?_; refine Zf ?_; refine Zl rb6 ?_; refine Zf ?_; refine Zl rb6 ?_; have lb12 := r4.lt; have lb13 := r10.lt; have lb14 := rb6.lt
  refine LL.lit (e := 3) [Value.int IntKind.i64 ↑f, Value.int IntKind.i64 ↑d, Value.int IntKind.i64 ↑k] 3 rfl rfl (fun _ => by kernel_rfl) rfl rfl ?_
  intro Wb16 gb17 egb17 rb18 zb19 bb15
  replace q := Zu q bb15; replace r4 := r4.up bb15; replace r10 := r10.up bb15; replace hcs := hcs.up bb15; replace hs := hs.up bb15; replace rb6 := rb6.up bb15
  refine Zy (R.call rfl rfl rfl) (pack_any _ _ _ _ _ (by first | assumption | omega) (by first | assumption | omega) (by first | assumption | omega)) ?_
  rintro e Wb21 ⟨rfl, bb20⟩
  refine ⟨_, rfl, ?_⟩; have zbb20 := bb20.size; replace rb18 := rb18.up bb20; replace q := Zu q bb20; replace r4 := r4.up bb20; replace r10 := r10.up bb20; replace hcs := hcs.up bb20; replace hs := hs.up bb20; replace rb6 := rb6.up bb20
  refine LL.val (R.index rfl rfl rfl (I.ixA1 rfl (by omega))) rfl rfl rfl ?_
  refine LL.storeZ rfl rfl (Nat.zero_add _) rfl rfl r10 (by first | omega | (simp only [List.length_set, List.length_replicate]; omega) | (rw [plOf_len]; omega)) rfl rfl ?_
  intro Wb24 rb25 bb23 zb26
  have hlbb23 := r10.lt
  clear r10
  replace rb18 := Zd rb18 bb23; replace q := Zg q bb23; replace r4 := Zd r4 bb23
  replace hs := hs.gr bb23 (by omega)
  replace rb6 := Zd rb6 bb23
  have r10 := rb25
  clear rb25
  refine ZL ?_; refine EE.inN ?_; refine ZT ?_; refine CC.region ?_
  refine LL.val (R.addNc rfl rfl rfl rfl (by omega)) rfl rfl rfl ?_
  refine Zm ?_; refine ZL ?_
  exact EE.round (i + 1) ⟨rfl, rfl, rfl, rfl, rfl, trivial⟩ ⟨by omega, q, by omega, r4, by rw [← hset]; exact r10⟩ (by omega)
/-- The extents that words tell. -/
def outZ (ws : List Int) : List Ex := (ws.filter fun z => decide (z ≠ 0)).map fun z => unpE z.toNat
theorem outZ_succ {ws : List Int} {i : Nat} {z : Int} (h : ws[i]? = some z) : outZ (ws.take (i + 1)) = outZ (ws.take i) ++ if z = 0 then [] else [unpE z.toNat] := by
  unfold outZ
  rw [List.take_add_one, h, List.filter_append, List.map_append]
  by_cases hz : z = 0 <;> simp [hz, List.filter]
theorem outZ_len (ws : List Int) : (outZ ws).length ≤ ws.length := by unfold outZ; rw [List.length_map]; exact List.length_filter_le _ _
/-- Words that are a map's. -/
def mapW (ws : List Int) : Prop := vL (outZ ws) ∧ wrdZ (outZ ws) = ws
set_option maxRecDepth 100000 in
set_option maxHeartbeats 8000000 in
theorem ofx_any (ws : List Int) (w : World) (hs : Start w) (hl : ws.length = 10) (hw : ∀ (i : Nat) (z : Int), ws[i]? = some z → 0 ≤ z ∧ z < 18446744073709551616) : Calls Tryz.prog 126 #[wdV ws] w fun e w' => ((mapW ws ∧ ∃ v, e = .returned (.tuple #[v, .int .i64 0]) ∧ ReadsT eE 3 w' v (outZ ws)) ∨ (¬mapW ws ∧ e = .returned (.tuple #[.slice none 0 0, .int .i64 2]))) ∧ Below w.heap.size w w' := by
  have q := Below.refl w.heap.size w
  have hp := hs.pos
  have hsF : ∀ W, Below w.heap.size w W → Start W := fun W hb => hs.up hb
  clear hs
  refine X.fn Tryz.func126 rfl (n := 34) rfl rfl ?_
  refine Zr ?_; refine LL.box _ rfl rfl rfl rfl rfl ?_
  intro W2 g3 eg3 r4 z5 b1
  replace q := Zu q b1; refine Za ?_; refine Za ?_; refine Zq ?_; refine Zr ?_; refine Za ?_; refine Zq ?_; refine Zc ?_; refine Zr ?_
  refine LL.val (R.loadZ rfl rfl r4 rfl rfl (by first | assumption | exact List.length_replicate | exact plL_len _ | exact plOf_len _ | simp)) rfl rfl rfl ?_
  refine Zm ?_; refine Zq ?_; refine CC.block ?_; have yw := q.size; have l3 := r4.lt
  have hB : ∃ B, W2.heap.size = B := ⟨_, rfl⟩
  obtain ⟨B, hB⟩ := hB
  rw [hB] at l3 yw
  refine CC.loop (α := Nat × Value) (fun s => [(1, .pointer (some ⟨g3, 0, none⟩)), (4, s.2), (9, wdV ws), (10, .int .i64 (s.1 : Int))]) (fun s W => s.1 ≤ 10 ∧ Below w.heap.size w W ∧ B ≤ W.heap.size ∧ RowL W g3 106 (intsZ .u64 ws) ∧ OwnsT eE 3 W B 124 s.2 (outZ (ws.take s.1))) (fun s => 10 - s.1) (0, .slice none 0 0) ⟨rfl, rfl, rfl, rfl, trivial⟩ ⟨by show 0 ≤ 10; omega, q, by omega, r4, OwnsT.none _ _ _⟩ ?_
  clear q r4
  rintro ⟨i, v⟩ W ⟨hi, q, yB, r4, o⟩
  simp only at hi o
  show CC none Tryz.prog _ 34 [] (sl [(1, .pointer (some ⟨g3, 0, none⟩)), (4, v), (9, wdV ws), (10, .int .i64 (i : Int))]) _ W
  have yq := q.size
  by_cases hlt : i < 10
  case pos =>
    obtain ⟨z, hz⟩ : ∃ z, ws[i]? = some z := ⟨_, List.getElem?_eq_getElem (by omega)⟩
    have hzb := hw i z hz
    obtain ⟨x, rfl⟩ : ∃ x : Nat, z = (x : Int) := ⟨z.toNat, by omega⟩
    have hst := outZ_succ hz
    have hol := outZ_len (ws.take i)
    rw [List.length_take] at hol
    by_cases h0 : x = 0
    · rw [if_pos (by omega), List.append_nil] at hst
      refine Zr ?_; refine ZltT ?_; refine Zq ?_; refine Zc ?_; refine ZY ?_; refine ZK ?_; refine ZT ?_; refine Zc ?_; refine CC.block ?_; refine Zr ?_
      refine LL.val (R.ixZ rfl rfl rfl rfl (by assumption) (by assumption)) rfl rfl rfl ?_
      refine Za ?_; refine Zq ?_; refine Zr ?_; refine Zm ?_; refine ZneF ?_; refine Zq ?_; refine ZN ?_; refine ZK ?_; refine EE.inN ?_; refine ZT ?_; refine CC.region ?_
      refine LL.val (R.addNc rfl rfl rfl rfl (by omega)) rfl rfl rfl ?_
      refine Zm ?_; refine ZL ?_
      exact EE.round (i + 1, v) ⟨rfl, rfl, rfl, rfl, trivial⟩ ⟨by show i + 1 ≤ 10; omega, q, yB, r4, by show OwnsT eE 3 _ _ _ v (outZ (ws.take (i + 1))); rw [hst]; exact o⟩ (by show 10 - (i + 1) < 10 - i; omega)
    rw [if_neg (by omega)] at hst
    have hs := hsF W q
    have hxb : x < 18446744073709551616 := by omega
    rw [Int.toNat_natCast] at hst
    refine Zr ?_; refine ZltT ?_; refine Zq ?_; refine Zc ?_; refine ZY ?_; refine ZK ?_; refine ZT ?_; refine Zc ?_; refine CC.block ?_; refine Zr ?_
    refine LL.val (R.ixZ rfl rfl rfl rfl (by assumption) (by assumption)) rfl rfl rfl ?_
    refine Za ?_; refine Zq ?_; refine Zr ?_; refine Zm ?_; refine ZneT ?_; refine Zq ?_; refine ZY ?_; refine CC.region ?_; refine Zm ?_; refine Zm ?_
    refine Zy (R.call rfl rfl rfl) (unpack_any _ _ (by first | assumption | omega) (by first | assumption | omega)) ?_
    rintro e Wb2 ⟨rfl, bb1⟩
    refine ⟨_, rfl, ?_⟩; have zbb1 := bb1.size; replace q := Zu q bb1; replace r4 := r4.up bb1; replace o := o.up bb1; replace hs := hs.up bb1; have lb4 := r4.lt
    refine LL.lit (e := 124) [Value.int IntKind.i64 (unpE x).1, Value.int IntKind.i64 (unpE x).2.1, Value.int IntKind.i64 (unpE x).2.2] 1 rfl rfl (fun _ => by kernel_rfl) rfl rfl ?_
    intro Wb6 gb7 egb7 rb8 zb9 bb5
    replace q := Zu q bb5; replace r4 := r4.up bb5; replace o := o.up bb5; replace hs := hs.up bb5
    refine LL.appendT2 rfl rfl eEnc ElEx o (RowL.readsT (ts := [unpE x]) eEnc (by assumption) 1 (by simp)) (by simp [maxLen]; omega) (by simp; omega) (by have := q.size; omega) rfl rfl ?_
    intro v' Wa oa gra hva
    replace q := q.grown gra (by have := q.size; omega) (fun g hg => by have := own_ge o g hg; omega)
    replace r4 := r4.grO gra (own_ne o l3)
    have hsz := gra.size
    rw [← hst] at oa
    refine Za ?_; refine ZL ?_; refine EE.inN ?_; refine ZT ?_; refine CC.region ?_
    refine LL.val (R.addNc rfl rfl rfl rfl (by omega)) rfl rfl rfl ?_
    refine Zm ?_; refine ZL ?_
    exact EE.round (i + 1, v') ⟨rfl, rfl, rfl, rfl, trivial⟩ ⟨by show i + 1 ≤ 10; omega, q, by omega, r4, oa⟩ (by show 10 - (i + 1) < 10 - i; omega)
  case neg =>
    obtain rfl : i = 10 := by omega
    rw [show ws.take 10 = ws from List.take_of_length_le (by omega)] at o
    have hr := o.reads eEnc
    have hol := outZ_len ws
    have hlo : (outZ ws).length ≤ 1048576 := by omega
    obtain ⟨n, hn⟩ : ∃ n, (outZ ws).length = n := ⟨_, rfl⟩
    obtain ⟨a, c, rfl, hc⟩ := hr.form hn
    have hrF := fun W' (hb : Below W.heap.size W W') => hr.up hb
    have qW := Below.refl W.heap.size W
    clear o
    by_cases hv : vL (outZ ws)
    case neg =>
      have hno : ¬mapW ws := fun h => hv h.1
      refine Zr ?_; refine ZltF ?_; refine Zq ?_; refine Zc ?_; refine ZN ?_; refine CC.exit ?_; refine EE.thenX ?_; refine EE.thenX ?_; refine EE.inX ?_; refine ZT ?_; refine Zc ?_; refine Zr ?_; refine Zm ?_
      refine Zy (R.call rfl rfl rfl) (words_F _ _ _ (by first | assumption | omega) (by first | assumption | omega) (by first | assumption | omega)) ?_
      rintro e Wd2 ⟨rfl, bd1⟩
      refine ⟨_, rfl, ?_⟩; have zbd1 := bd1.size; replace q := Zu q bd1; replace r4 := r4.up bd1; replace hr := hr.up bd1; replace qW := Zu qW bd1; refine Zm ?_; refine Zx ?_; refine Zx ?_; have ld4 := r4.lt
      refine LL.alloc (intsZ .u64 (List.replicate 10 0)) rfl rfl rfl rfl rfl ?_
      intro Wd6 gd7 egd7 rd8 zd9 bd5
      replace q := Zu q bd5; replace r4 := r4.up bd5; replace hr := hr.up bd5; replace qW := Zu qW bd5
      refine LL.storeAZ rfl rfl rfl rfl (by first | assumption | exact List.length_replicate | exact plL_len _ | exact plOf_len _ | simp) rd8 (by first | (rw [List.length_map]; exact (by first | assumption | exact List.length_replicate | exact plL_len _ | exact plOf_len _ | simp)) | simp) rfl rfl ?_
      intro Wd11 rd12 bd10 zd13
      have hlbd10 := rd8.lt
      replace rd12 : RowL Wd11 _ 106 [(fun z => Value.int IntKind.u64 z) 0, (fun z => Value.int IntKind.u64 z) 0, (fun z => Value.int IntKind.u64 z) 0, (fun z => Value.int IntKind.u64 z) 0, (fun z => Value.int IntKind.u64 z) 0, (fun z => Value.int IntKind.u64 z) 0, (fun z => Value.int IntKind.u64 z) 0, (fun z => Value.int IntKind.u64 z) 0, (fun z => Value.int IntKind.u64 z) 0, (fun z => Value.int IntKind.u64 z) 0] := rd12
      clear rd8
      replace q := Zg q bd10; replace r4 := Zd r4 bd10; replace qW := Zg qW bd10
      have rd8 := rd12
      clear rd12
      refine Za ?_; refine Zq ?_; refine Zr ?_; refine Zm ?_; refine ZneT ?_; refine Zm ?_; refine Zs ?_; refine Zs ?_; refine Zs ?_; refine Zp ?_; refine Zq ?_; refine ZY ?_; refine Zr ?_; refine Za ?_; refine Za ?_; refine Zq ?_; refine ZR ?_; refine EE.thenR ?_; refine EE.ret _ rfl rfl ?_
      exact ⟨.inr ⟨hno, rfl⟩, q⟩
    refine Zr ?_; refine ZltF ?_; refine Zq ?_; refine Zc ?_; refine ZN ?_; refine CC.exit ?_; refine EE.thenX ?_; refine EE.thenX ?_; refine EE.inX ?_; refine ZT ?_; refine Zc ?_; refine Zr ?_; refine Zm ?_
    refine Zy (R.call rfl rfl rfl) (words_T (outZ ws) _ _ (hsF W q) hr hv) ?_
    rintro e W5 ⟨rfl, b5⟩
    refine ⟨_, rfl, ?_⟩; replace q := Zu q b5
    replace qW := qW.trans b5
    replace r4 := r4.up b5
    clear hr
    have y5 := b5.size
    clear b5
    have hwl := wrdZ_len (l := outZ ws) (by omega)
    by_cases he : wrdZ (outZ ws) = ws
    · refine Zm ?_; refine Zx ?_; refine Zx ?_; have lf1 := r4.lt
      refine LL.alloc (intsZ .u64 (List.replicate 10 0)) rfl rfl rfl rfl rfl ?_
      intro Wf3 gf4 egf4 rf5 zf6 bf2
      replace q := Zu q bf2; replace qW := Zu qW bf2; replace r4 := r4.up bf2
      refine LL.storeAZ rfl rfl rfl rfl (by first | assumption | exact List.length_replicate | exact plL_len _ | exact plOf_len _ | simp) rf5 (by first | (rw [List.length_map]; exact (by first | assumption | exact List.length_replicate | exact plL_len _ | exact plOf_len _ | simp)) | simp) rfl rfl ?_
      intro Wf8 rf9 bf7 zf10
      have hlbf7 := rf5.lt
      clear rf5
      replace q := Zg q bf7; replace qW := Zg qW bf7; replace r4 := Zd r4 bf7
      have rf5 := rf9
      clear rf9
      refine Za ?_; refine Zq ?_; refine Zr ?_; refine Zm ?_; refine ZneF ?_; refine Zm ?_
      refine LL.val (R.loadZ rfl rfl rf5 rfl rfl (by first | assumption | exact List.length_replicate | exact plL_len _ | exact plOf_len _ | simp)) rfl rfl rfl ?_
      refine LL.val (R.loadZ rfl rfl r4 rfl rfl (by first | assumption | exact List.length_replicate | exact plL_len _ | exact plOf_len _ | simp)) rfl rfl rfl ?_
      refine LL.val (R.neZT rfl rfl rfl Tryz.underlying106 Tryz.underlying25 rfl (by decide) rfl (by kernel_rfl) (by assumption) (by assumption) (by assumption)) rfl rfl rfl ?_
      refine Zp ?_; refine Zq ?_; refine ZN ?_; refine ZK ?_; refine ZT ?_; refine Zr ?_; refine Zm ?_; refine Za ?_; refine Za ?_; refine Zq ?_; refine ZR ?_; refine EE.ret _ rfl rfl ?_
      exact ⟨.inl ⟨⟨hv, he⟩, _, rfl, hrF _ qW⟩, q⟩
    · have hno : ¬mapW ws := fun h => he h.2
      refine Zm ?_; refine Zx ?_; refine Zx ?_; have lg1 := r4.lt
      refine LL.alloc (intsZ .u64 (List.replicate 10 0)) rfl rfl rfl rfl rfl ?_
      intro Wg3 gg4 egg4 rg5 zg6 bg2
      replace q := Zu q bg2; replace qW := Zu qW bg2; replace r4 := r4.up bg2
      refine LL.storeAZ rfl rfl rfl rfl (by first | assumption | exact List.length_replicate | exact plL_len _ | exact plOf_len _ | simp) rg5 (by first | (rw [List.length_map]; exact (by first | assumption | exact List.length_replicate | exact plL_len _ | exact plOf_len _ | simp)) | simp) rfl rfl ?_
      intro Wg8 rg9 bg7 zg10
      have hlbg7 := rg5.lt
      clear rg5
      replace q := Zg q bg7; replace qW := Zg qW bg7; replace r4 := Zd r4 bg7
      have rg5 := rg9
      clear rg9
      refine Za ?_; refine Zq ?_; refine Zr ?_; refine Zm ?_; refine ZneF ?_; refine Zm ?_
      refine LL.val (R.loadZ rfl rfl rg5 rfl rfl (by first | assumption | exact List.length_replicate | exact plL_len _ | exact plOf_len _ | simp)) rfl rfl rfl ?_
      refine LL.val (R.loadZ rfl rfl r4 rfl rfl (by first | assumption | exact List.length_replicate | exact plL_len _ | exact plOf_len _ | simp)) rfl rfl rfl ?_
      refine LL.val (R.neZF rfl rfl rfl Tryz.underlying106 Tryz.underlying25 rfl (by decide) rfl (by kernel_rfl) (by assumption) (by assumption) (by assumption)) rfl rfl rfl ?_
      refine Zp ?_; refine Zq ?_; refine ZY ?_; refine Zr ?_; refine Za ?_; refine Za ?_; refine Zq ?_; refine ZR ?_; refine EE.thenR ?_; refine EE.ret _ rfl rfl ?_
      exact ⟨.inr ⟨hno, rfl⟩, q⟩
/-- Do places have a block of the device? -/
def hasP (p : List Int) (d : Int) : Prop := ∃ i : Nat, p[i]? = some d
set_option maxRecDepth 100000 in
set_option maxHeartbeats 8000000 in
theorem has_any (p : List Int) (d : Int) (w : World) (hp : p.length = 128) : Calls Tryz.prog 87 #[plV p, .int .i64 d] w fun e w' => (∃ b : Bool, e = .returned (.bool b) ∧ (b = true ↔ hasP p d)) ∧ Below w.heap.size w w' := by
  have q := Below.refl w.heap.size w
  refine X.fn Tryz.func87 rfl (n := 15) rfl rfl ?_
  refine Zr ?_; refine LL.box _ rfl rfl rfl rfl rfl ?_
  intro W2 g3 eg3 r4 z5 b1
  replace q := Zu q b1; refine Za ?_; refine Zq ?_; refine Zc ?_; refine Zr ?_; refine Za ?_; refine Zq ?_; refine CC.block ?_
  refine CC.loop (α := Nat) (fun i => [(1, .int .i64 d), (2, .pointer (some ⟨g3, 0, none⟩)), (5, .int .i64 (i : Int))]) (fun i W => i ≤ 128 ∧ Below w.heap.size w W ∧ RowL W g3 126 (intsZ .i64 p) ∧ ∀ j, j < i → p[j]? ≠ some d) (fun i => 128 - i) 0 ⟨rfl, rfl, rfl, trivial⟩ ⟨by omega, q, r4, fun j h => by omega⟩ ?_
  clear q r4
  rintro i W ⟨hi, q, r4, ht⟩
  show CC none Tryz.prog _ 15 [] (sl [(1, .int .i64 d), (2, .pointer (some ⟨g3, 0, none⟩)), (5, .int .i64 (i : Int))]) _ W
  by_cases hlt : i < 128
  case neg =>
    have hno : ¬hasP p d := fun ⟨j, hj⟩ => ht j (by have := (List.getElem?_eq_some_iff.1 hj).1; omega) hj
    refine Zc ?_; refine Zr ?_; refine Zm ?_; refine ZltF ?_; refine Zq ?_; refine ZN ?_; refine CC.exit ?_; refine EE.thenX ?_; refine EE.thenX ?_; refine EE.inX ?_; refine ZT ?_; refine Zr ?_; refine Za ?_; refine Zq ?_; refine ZR ?_; refine EE.ret _ rfl rfl ?_
    exact ⟨⟨false, rfl, by simp [hno]⟩, q⟩
  obtain ⟨z, hz⟩ : ∃ z, p[i]? = some z := ⟨_, List.getElem?_eq_getElem (by omega)⟩
  have c1 : W.cell? ⟨g3, 0 + i, none⟩ = some (.int .i64 z) := RowL.cell r4 (by rw [show 0 + i = i by omega]; simp [hz])
  by_cases hd : z = d
  · have hyes : hasP p d := ⟨i, by rw [hz, hd]⟩
    refine Zc ?_; refine Zr ?_; refine Zm ?_; refine ZltT ?_; refine Zq ?_; refine ZY ?_; refine ZK ?_; refine ZT ?_; refine Zc ?_; refine CC.block ?_; refine Zr ?_; refine Zm ?_
    refine LL.val (R.index rfl rfl rfl (I.ixA1 rfl (by omega))) rfl rfl rfl ?_
    refine Zk ?_; refine Zm ?_; refine ZeqT ?_; refine Zq ?_; refine ZY ?_; refine Zr ?_; refine Za ?_; refine Zq ?_; refine ZR ?_; refine EE.inR ?_; refine EE.thenR ?_; refine EE.thenR ?_; refine EE.inR ?_; refine EE.thenR ?_; refine EE.ret _ rfl rfl ?_
    exact ⟨⟨true, rfl, by simp [hyes]⟩, q⟩
  · have ht' : ∀ j, j < i + 1 → p[j]? ≠ some d := fun j hj hx => by
      by_cases e : j = i
      · subst e; rw [hz] at hx; exact hd (Option.some.inj hx)
      · exact ht j (by omega) hx
    refine Zc ?_; refine Zr ?_; refine Zm ?_; refine ZltT ?_; refine Zq ?_; refine ZY ?_; refine ZK ?_; refine ZT ?_; refine Zc ?_; refine CC.block ?_; refine Zr ?_; refine Zm ?_
    refine LL.val (R.index rfl rfl rfl (I.ixA1 rfl (by omega))) rfl rfl rfl ?_
    refine Zk ?_; refine Zm ?_; refine ZeqF ?_; refine Zq ?_; refine ZN ?_; refine ZK ?_; refine EE.inN ?_; refine ZT ?_; refine CC.region ?_; refine Zm ?_
    refine LL.val (R.addNc rfl rfl rfl rfl (by omega)) rfl rfl rfl ?_
    refine Za ?_; refine ZL ?_
    exact EE.round (i + 1) ⟨rfl, rfl, rfl, trivial⟩ ⟨by omega, q, r4, ht'⟩ (by omega)
--C ref06_Map_has | has_T _ _ @w @p @p | ⟨rfl, @b⟩
theorem has_T (p : List Int) (d : Int) (w : World) (hp : p.length = 128) (h : hasP p d) : Calls Tryz.prog 87 #[plV p, .int .i64 d] w fun e w' => e = .returned (.bool true) ∧ Below w.heap.size w w' :=
  (has_any p d w hp).mono fun e w' ⟨⟨b, he, hb⟩, hw⟩ => ⟨by rw [he, hb.2 h], hw⟩
theorem pow_a (w : World) : Calls Tryz.prog 85 #[.int .i64 16] w fun e w' => e = .returned (.int .u64 ((65536 : Nat) : Int)) ∧ w = w' :=
  power_any 16 (by omega) 65536 (Lib.hid (by decide)) w
theorem pow_b (w : World) : Calls Tryz.prog 85 #[.int .i64 40] w fun e w' => e = .returned (.int .u64 ((1099511627776 : Nat) : Int)) ∧ w = w' :=
  power_any 40 (by omega) 1099511627776 (Lib.hid (by decide)) w
set_option maxRecDepth 100000 in
set_option maxHeartbeats 16000000 in
theorem rwords_T (l : List Ex) (v : Value) (w : World) (hv : ReadsT eE 3 w v l) (h : vL l) : Calls Tryz.prog 73 #[v] w fun e w' => e = .returned (wdV (wrdZ l)) ∧ Below w.heap.size w w' := by
  have q := Below.refl w.heap.size w
  have hlen : l.length ≤ 1048576 := by have := h.1; omega
  obtain ⟨N, hN⟩ : ∃ N, l.length = N := ⟨_, rfl⟩
  have hN10 : N ≤ 10 := by have := h.1; omega
  obtain ⟨a, cap, rfl, hcap⟩ := hv.form hN
  have hvF : ∀ W, Below w.heap.size w W → ReadsT eE 3 W (.slice a N cap) l := fun W hb => hv.up hb
  refine X.fn Tryz.func73 rfl (n := 38) rfl rfl ?_
  refine Zr ?_
  refine LL.alloc (intsZ .u64 (List.replicate 10 0)) rfl rfl rfl rfl rfl ?_
  intro W2 g3 eg3 r4 z5 b1
  replace q := Zu q b1; replace hv := hv.up b1; refine Zq ?_; refine Zr ?_; have l6 := r4.lt
  refine LL.alloc (intsZ .u64 (List.replicate 10 0)) rfl rfl rfl rfl rfl ?_
  intro W8 g9 eg9 r10 z11 b7
  replace r4 := r4.up b7; replace b1 := Zu b1 b7; replace q := Zu q b7; replace hv := hv.up b7; refine Zq ?_; refine Zc ?_; refine Zr ?_; refine Za ?_; refine Zq ?_; refine CC.block ?_; have yq := q.size
  have rc : RowL W8 g9 106 (intsZ .u64 (wrdZ (l.take 0))) := r10
  have hg : g3 < g9 := by omega
  have hwg : w.heap.size ≤ g3 := by omega
  refine CC.loop (α := Nat) (fun i => [(0, .slice a N cap), (2, .pointer (some ⟨g3, 0, none⟩)), (3, .pointer (some ⟨g9, 0, none⟩)), (4, .int .i64 (i : Int))]) (fun i W => i ≤ N ∧ Below w.heap.size w W ∧ g9 < W.heap.size ∧ RowL W g3 106 (intsZ .u64 (List.replicate 10 0)) ∧ RowL W g9 106 (intsZ .u64 (wrdZ (l.take i)))) (fun i => N - i) 0 ⟨rfl, rfl, rfl, rfl, trivial⟩ ⟨by omega, q, rc.lt, r4, rc⟩ ?_
  clear q r4 r10 rc hv
  rintro i W ⟨hi, q, l9, r4, r10⟩
  show CC none Tryz.prog _ 38 [] (sl [(0, .slice a N cap), (2, .pointer (some ⟨g3, 0, none⟩)), (3, .pointer (some ⟨g9, 0, none⟩)), (4, .int .i64 (i : Int))]) _ W
  have yq := q.size
  have hwl : (wrdZ (l.take i)).length = 10 := wrdZ_len (by simp; omega)
  by_cases hlt : i < N
  case neg =>
    obtain rfl : i = N := by omega
    rw [show l.take i = l from List.take_of_length_le (by omega)] at r10 hwl
    refine Zc ?_; refine Zr ?_; refine Zm ?_; refine Zm ?_; refine Zn ?_; refine ZltF ?_; refine Zq ?_; refine ZN ?_; refine CC.exit ?_; refine EE.thenX ?_; refine EE.thenX ?_; refine EE.inX ?_; refine ZT ?_; refine Zr ?_
    refine LL.val (R.loadZ rfl rfl r10 rfl rfl (by first | assumption | exact List.length_replicate | exact plL_len _ | exact plOf_len _ | simp)) rfl rfl rfl ?_
    refine LL.storeAZ rfl rfl rfl rfl (by first | assumption | exact List.length_replicate | exact plL_len _ | exact plOf_len _ | simp) r4 (by first | (rw [List.length_map]; exact (by first | assumption | exact List.length_replicate | exact plL_len _ | exact plOf_len _ | simp)) | simp) rfl rfl ?_
    intro Wa2 ra3 ba1 za4
    have hlba1 := r4.lt
    clear r4
    replace q := Zg q ba1; replace r10 := Zd r10 ba1
    have r4 := ra3
    clear ra3
    refine Zq ?_; refine ZR ?_
    refine EE.retC rfl rfl (lvZ (by assumption) rfl rfl (by first | assumption | exact List.length_replicate | exact plL_len _ | exact plOf_len _ | simp)) ?_
    exact ⟨rfl, q⟩
  obtain ⟨x, hx⟩ : ∃ x, l[i]? = some x := ⟨_, List.getElem?_eq_getElem (by omega)⟩
  have hmx := h.2.1 x (List.mem_of_getElem? hx)
  obtain ⟨bk, off, rfl, hbk, hcs⟩ := (hvF W q).get eEnc hx
  have hset := wrdZ_set h.1 hx
  obtain ⟨f, d, k, rfl, hf, hd, hk⟩ := pkZ_nat hmx
  have hpk : pkZ ((f : Int), (d : Int), (k : Int)) = ((f + d * 65536 + k * 1099511627776 : Nat) : Int) := by unfold pkZ; simp only; omega
  rw [hpk] at hset
  have hcs : Cells W ⟨bk, off + i * 3, none⟩ [.int .i64 (f : Int), .int .i64 (d : Int), .int .i64 (k : Int)] := hcs
  have c1 := hcs.at (j := 0) rfl
  have c2 := hcs.at (j := 1) rfl
  have c3 := hcs.at (j := 2) rfl
  clear hcs
  refine Zc ?_; refine Zr ?_; refine Zm ?_; refine Zm ?_; refine Zn ?_; refine ZltT ?_; refine Zq ?_; refine ZY ?_; refine ZK ?_; refine ZT ?_; refine Zc ?_; refine CC.block ?_
  refine CC.join (fun l_ Wb5 => l_ = [(0, Value.slice (some { block := bk, off := off }) N cap), (2, Value.pointer (some { block := g3, off := 0 })), (3, Value.pointer (some { block := g9, off := 0 })), (4, Value.int IntKind.i64 ↑i), (5, Value.int IntKind.i64 ↑i), (6, Value.slice (some { block := bk, off := off }) N cap), (7, Value.int IntKind.i64 ↑N), (8, Value.bool true)] ∧ (Below w.heap.size w Wb5) ∧ (RowL Wb5 g3 106 (intsZ IntKind.u64 (List.replicate 10 0))) ∧ (RowL Wb5 g9 106 (intsZ IntKind.u64 ((wrdZ (List.take i l)).set i ↑(f + d * 65536 + k * 1099511627776)))) ∧ (W.heap.size ≤ Wb5.heap.size)) (fun Jb9 => ?_) ?restJb9
  case' restJb9 =>
    clear q
    clear r4
    clear r10
    rintro _ Wb5 ⟨rfl, q, r4, r10, zb8⟩
  refine EE.inN ?_; refine ZT ?_; refine CC.region ?_; refine Zm ?_
  refine LL.val (R.addNc rfl rfl rfl rfl (by omega)) rfl rfl rfl ?_
  refine Za ?_; refine ZL ?_
  exact EE.round (i + 1) ⟨rfl, rfl, rfl, rfl, trivial⟩ ⟨by omega, q, by omega, r4, by rw [← hset]; exact r10⟩ (by omega)
  refine CC.freeZ (fun W_ j => j < W_.heap.size ∧ (j ≠ g9)) (by kernel_rfl) (by kernel_rfl) (fun Wb11 bb10 zb12 => ?_)
  replace q := Zu q bb10; replace r4 := r4.up bb10; replace r10 := r10.up bb10; replace hcs := hcs.up bb10; replace c1 := cell_up c1 bb10; replace c2 := cell_up c2 bb10; replace c3 := cell_up c3 bb10
  have hok : Kept (fun j => j < Wb11.heap.size ∧ (j ≠ g9)) Wb11 Wb11 := Kept.refl _ _
  have fzr4 := fzRow (K := fun j => j < Wb11.heap.size ∧ (j ≠ g9)) r4 ⟨r4.lt, (by first | trivial | omega)⟩
  refine AA.pure 0 rfl hok (by kernel_rfl) (fun w' b' => R.move rfl rfl) rfl rfl ?_
  refine AA.pure 1 rfl hok (by kernel_rfl) (fun w' b' => R.move rfl rfl) rfl rfl ?_
  refine AA.pure 2 rfl hok (by kernel_rfl) (fun w' b' => R.move rfl rfl) rfl rfl ?_
  refine AA.pure 3 rfl hok (by kernel_rfl) (fun w' b' => R.index rfl rfl rfl (I.ixS rfl (by omega))) rfl rfl ?_
  refine AA.pure 4 rfl hok (by kernel_rfl) (fun w' b' => R.field rfl rfl (I.fld rfl)) rfl rfl ?_
  refine AA.pure 7 rfl hok (by kernel_rfl) (fun w' b' => R.move rfl rfl) rfl rfl ?_
  refine AA.pure 8 rfl hok (by kernel_rfl) (fun w' b' => R.move rfl rfl) rfl rfl ?_
  refine AA.pure 9 rfl hok (by kernel_rfl) (fun w' b' => R.index rfl rfl rfl (I.ixS rfl (by omega))) rfl rfl ?_
  refine AA.pure 10 rfl hok (by kernel_rfl) (fun w' b' => R.field rfl rfl (I.fld rfl)) rfl rfl ?_
  refine AA.pureC 13 rfl hok (by kernel_rfl) (fun w' => (R.call rfl rfl rfl)) (fun w' b' => pow_a w') rfl rfl ?_
  refine AA.pure 16 rfl hok (by kernel_rfl) (fun w' b' => R.move rfl rfl) rfl rfl ?_
  refine AA.pure 17 rfl hok (by kernel_rfl) (fun w' b' => R.move rfl rfl) rfl rfl ?_
  refine AA.pure 18 rfl hok (by kernel_rfl) (fun w' b' => R.index rfl rfl rfl (I.ixS rfl (by omega))) rfl rfl ?_
  refine AA.pure 19 rfl hok (by kernel_rfl) (fun w' b' => R.field rfl rfl (I.fld rfl)) rfl rfl ?_
  refine AA.pureC 22 rfl hok (by kernel_rfl) (fun w' => (R.call rfl rfl rfl)) (fun w' b' => pow_b w') rfl rfl ?_
  refine AA.three 5 11 20 (by kernel_rfl) ?_ ?_ ?_
  refine SR.val rfl (R.load rfl rfl (I.ld1 rfl (by assumption))) rfl rfl hok ?_
  refine AA.pure 6 rfl hok (by kernel_rfl) (fun w' b' => R.convI rfl rfl rfl rfl (wrapU (by omega) (by omega))) rfl rfl ?_
  refine AA.two 11 20 (by kernel_rfl) ?_ ?_
  refine SR.val rfl (R.load rfl rfl (I.ld1 rfl (by assumption))) rfl rfl hok ?_
  refine AA.pure 12 rfl hok (by kernel_rfl) (fun w' b' => R.convI rfl rfl rfl rfl (wrapU (by omega) (by omega))) rfl rfl ?_
  refine AA.pure 14 rfl hok (by kernel_rfl) (fun w' b' => R.mulUN rfl rfl rfl (by omega)) rfl rfl ?_
  refine AA.pure 15 rfl hok (by kernel_rfl) (fun w' b' => R.addUN rfl rfl rfl (by omega)) rfl rfl ?_
  refine AA.one 20 (by kernel_rfl) ?_
  refine SR.val rfl (R.load rfl rfl (I.ld1 rfl (by assumption))) rfl rfl hok ?_
  refine AA.pure 21 rfl hok (by kernel_rfl) (fun w' b' => R.convI rfl rfl rfl rfl (wrapU (by omega) (by omega))) rfl rfl ?_
  refine AA.pure 23 rfl hok (by kernel_rfl) (fun w' b' => R.mulUN rfl rfl rfl (by omega)) rfl rfl ?_
  refine AA.pure 24 rfl hok (by kernel_rfl) (fun w' b' => R.addUN rfl rfl rfl (by omega)) rfl rfl ?_
  refine AA.pure 25 rfl hok (by kernel_rfl) (fun w' b' => R.index rfl rfl rfl (I.ixA1 rfl (by omega))) rfl rfl ?_
  refine AA.one 26 (by kernel_rfl) ?_
  refine ZR.storeZ rfl rfl rfl (Nat.zero_add _) rfl rfl r10 (by first | omega | (simp only [List.length_set, List.length_replicate]; omega) | (rw [plOf_len]; omega)) rfl rfl ?_
  intro Wb14 rb15 bb13 zb16
  have hlbb13 := r10.lt
  clear r10
  replace q := Zg q bb13; replace r4 := Zd r4 bb13; replace hok := Zo hok bb13
  have r10 := rb15
  clear rb15
  refine ⟨hok, ?_⟩
  refine AA.done rfl ?_
  clear fzr4 hok
  exact EE.weak (Jb9 _ _ ⟨rfl, (by first | assumption | omega), (by first | assumption | omega), (by first | assumption | omega), (by first | assumption | omega)⟩) ⟨rfl, rfl, rfl, rfl, rfl, rfl, rfl, rfl, trivial⟩
  refine SR.val rfl (R.load rfl rfl (I.ld1 rfl (by assumption))) rfl rfl hok ?_
  refine AA.pure 21 rfl hok (by kernel_rfl) (fun w' b' => R.convI rfl rfl rfl rfl (wrapU (by omega) (by omega))) rfl rfl ?_
  refine AA.pure 23 rfl hok (by kernel_rfl) (fun w' b' => R.mulUN rfl rfl rfl (by omega)) rfl rfl ?_
  refine AA.one 11 (by kernel_rfl) ?_
  refine SR.val rfl (R.load rfl rfl (I.ld1 rfl (by assumption))) rfl rfl hok ?_
  refine AA.pure 12 rfl hok (by kernel_rfl) (fun w' b' => R.convI rfl rfl rfl rfl (wrapU (by omega) (by omega))) rfl rfl ?_
  refine AA.pure 14 rfl hok (by kernel_rfl) (fun w' b' => R.mulUN rfl rfl rfl (by omega)) rfl rfl ?_
  refine AA.pure 15 rfl hok (by kernel_rfl) (fun w' b' => R.addUN rfl rfl rfl (by omega)) rfl rfl ?_
  refine AA.pure 24 rfl hok (by kernel_rfl) (fun w' b' => R.addUN rfl rfl rfl (by omega)) rfl rfl ?_
  refine AA.pure 25 rfl hok (by kernel_rfl) (fun w' b' => R.index rfl rfl rfl (I.ixA1 rfl (by omega))) rfl rfl ?_
  refine AA.one 26 (by kernel_rfl) ?_
  refine ZR.storeZ rfl rfl rfl (Nat.zero_add _) rfl rfl r10 (by first | omega | (simp only [List.length_set, List.length_replicate]; omega) | (rw [plOf_len]; omega)) rfl rfl ?_
  intro Wb18 rb19 bb17 zb20
  have hlbb17 := r10.lt
  clear r10
  replace q := Zg q bb17; replace r4 := Zd r4 bb17; replace hok := Zo hok bb17
  have r10 := rb19
  clear rb19
  refine ⟨hok, ?_⟩
  refine AA.done rfl ?_
  clear fzr4 hok
  exact EE.weak (Jb9 _ _ ⟨rfl, (by first | assumption | omega), (by first | assumption | omega), (by first | assumption | omega), (by first | assumption | omega)⟩) ⟨rfl, rfl, rfl, rfl, rfl, rfl, rfl, rfl, trivial⟩
  refine SR.val rfl (R.load rfl rfl (I.ld1 rfl (by assumption))) rfl rfl hok ?_
  refine AA.pure 12 rfl hok (by kernel_rfl) (fun w' b' => R.convI rfl rfl rfl rfl (wrapU (by omega) (by omega))) rfl rfl ?_
  refine AA.pure 14 rfl hok (by kernel_rfl) (fun w' b' => R.mulUN rfl rfl rfl (by omega)) rfl rfl ?_
  refine AA.two 5 20 (by kernel_rfl) ?_ ?_
  refine SR.val rfl (R.load rfl rfl (I.ld1 rfl (by assumption))) rfl rfl hok ?_
  refine AA.pure 6 rfl hok (by kernel_rfl) (fun w' b' => R.convI rfl rfl rfl rfl (wrapU (by omega) (by omega))) rfl rfl ?_
  refine AA.pure 15 rfl hok (by kernel_rfl) (fun w' b' => R.addUN rfl rfl rfl (by omega)) rfl rfl ?_
  refine AA.one 20 (by kernel_rfl) ?_
  refine SR.val rfl (R.load rfl rfl (I.ld1 rfl (by assumption))) rfl rfl hok ?_
  refine AA.pure 21 rfl hok (by kernel_rfl) (fun w' b' => R.convI rfl rfl rfl rfl (wrapU (by omega) (by omega))) rfl rfl ?_
  refine AA.pure 23 rfl hok (by kernel_rfl) (fun w' b' => R.mulUN rfl rfl rfl (by omega)) rfl rfl ?_
  refine AA.pure 24 rfl hok (by kernel_rfl) (fun w' b' => R.addUN rfl rfl rfl (by omega)) rfl rfl ?_
  refine AA.pure 25 rfl hok (by kernel_rfl) (fun w' b' => R.index rfl rfl rfl (I.ixA1 rfl (by omega))) rfl rfl ?_
  refine AA.one 26 (by kernel_rfl) ?_
  refine ZR.storeZ rfl rfl rfl (Nat.zero_add _) rfl rfl r10 (by first | omega | (simp only [List.length_set, List.length_replicate]; omega) | (rw [plOf_len]; omega)) rfl rfl ?_
  intro Wb22 rb23 bb21 zb24
  have hlbb21 := r10.lt
  clear r10
  replace q := Zg q bb21; replace r4 := Zd r4 bb21; replace hok := Zo hok bb21
  have r10 := rb23
  clear rb23
  refine ⟨hok, ?_⟩
  refine AA.done rfl ?_
  clear fzr4 hok
  exact EE.weak (Jb9 _ _ ⟨rfl, (by first | assumption | omega), (by first | assumption | omega), (by first | assumption | omega), (by first | assumption | omega)⟩) ⟨rfl, rfl, rfl, rfl, rfl, rfl, rfl, rfl, trivial⟩
  refine SR.val rfl (R.load rfl rfl (I.ld1 rfl (by assumption))) rfl rfl hok ?_
  refine AA.pure 21 rfl hok (by kernel_rfl) (fun w' b' => R.convI rfl rfl rfl rfl (wrapU (by omega) (by omega))) rfl rfl ?_
  refine AA.pure 23 rfl hok (by kernel_rfl) (fun w' b' => R.mulUN rfl rfl rfl (by omega)) rfl rfl ?_
  refine AA.one 5 (by kernel_rfl) ?_
  refine SR.val rfl (R.load rfl rfl (I.ld1 rfl (by assumption))) rfl rfl hok ?_
  refine AA.pure 6 rfl hok (by kernel_rfl) (fun w' b' => R.convI rfl rfl rfl rfl (wrapU (by omega) (by omega))) rfl rfl ?_
  refine AA.pure 15 rfl hok (by kernel_rfl) (fun w' b' => R.addUN rfl rfl rfl (by omega)) rfl rfl ?_
  refine AA.pure 24 rfl hok (by kernel_rfl) (fun w' b' => R.addUN rfl rfl rfl (by omega)) rfl rfl ?_
  refine AA.pure 25 rfl hok (by kernel_rfl) (fun w' b' => R.index rfl rfl rfl (I.ixA1 rfl (by omega))) rfl rfl ?_
  refine AA.one 26 (by kernel_rfl) ?_
  refine ZR.storeZ rfl rfl rfl (Nat.zero_add _) rfl rfl r10 (by first | omega | (simp only [List.length_set, List.length_replicate]; omega) | (rw [plOf_len]; omega)) rfl rfl ?_
  intro Wb26 rb27 bb25 zb28
  have hlbb25 := r10.lt
  clear r10
  replace q := Zg q bb25; replace r4 := Zd r4 bb25; replace hok := Zo hok bb25
  have r10 := rb27
  clear rb27
  refine ⟨hok, ?_⟩
  refine AA.done rfl ?_
  clear fzr4 hok
  exact EE.weak (Jb9 _ _ ⟨rfl, (by first | assumption | omega), (by first | assumption | omega), (by first | assumption | omega), (by first | assumption | omega)⟩) ⟨rfl, rfl, rfl, rfl, rfl, rfl, rfl, rfl, trivial⟩
  refine SR.val rfl (R.load rfl rfl (I.ld1 rfl (by assumption))) rfl rfl hok ?_
  refine AA.pure 21 rfl hok (by kernel_rfl) (fun w' b' => R.convI rfl rfl rfl rfl (wrapU (by omega) (by omega))) rfl rfl ?_
  refine AA.pure 23 rfl hok (by kernel_rfl) (fun w' b' => R.mulUN rfl rfl rfl (by omega)) rfl rfl ?_
  refine AA.two 5 11 (by kernel_rfl) ?_ ?_
  refine SR.val rfl (R.load rfl rfl (I.ld1 rfl (by assumption))) rfl rfl hok ?_
  refine AA.pure 6 rfl hok (by kernel_rfl) (fun w' b' => R.convI rfl rfl rfl rfl (wrapU (by omega) (by omega))) rfl rfl ?_
  refine AA.one 11 (by kernel_rfl) ?_
  refine SR.val rfl (R.load rfl rfl (I.ld1 rfl (by assumption))) rfl rfl hok ?_
  refine AA.pure 12 rfl hok (by kernel_rfl) (fun w' b' => R.convI rfl rfl rfl rfl (wrapU (by omega) (by omega))) rfl rfl ?_
  refine AA.pure 14 rfl hok (by kernel_rfl) (fun w' b' => R.mulUN rfl rfl rfl (by omega)) rfl rfl ?_
  refine AA.pure 15 rfl hok (by kernel_rfl) (fun w' b' => R.addUN rfl rfl rfl (by omega)) rfl rfl ?_
  refine AA.pure 24 rfl hok (by kernel_rfl) (fun w' b' => R.addUN rfl rfl rfl (by omega)) rfl rfl ?_
  refine AA.pure 25 rfl hok (by kernel_rfl) (fun w' b' => R.index rfl rfl rfl (I.ixA1 rfl (by omega))) rfl rfl ?_
  refine AA.one 26 (by kernel_rfl) ?_
  refine ZR.storeZ rfl rfl rfl (Nat.zero_add _) rfl rfl r10 (by first | omega | (simp only [List.length_set, List.length_replicate]; omega) | (rw [plOf_len]; omega)) rfl rfl ?_
  intro Wb30 rb31 bb29 zb32
  have hlbb29 := r10.lt
  clear r10
  replace q := Zg q bb29; replace r4 := Zd r4 bb29; replace hok := Zo hok bb29
  have r10 := rb31
  clear rb31
  refine ⟨hok, ?_⟩
  refine AA.done rfl ?_
  clear fzr4 hok
  exact EE.weak (Jb9 _ _ ⟨rfl, (by first | assumption | omega), (by first | assumption | omega), (by first | assumption | omega), (by first | assumption | omega)⟩) ⟨rfl, rfl, rfl, rfl, rfl, rfl, rfl, rfl, trivial⟩
  refine SR.val rfl (R.load rfl rfl (I.ld1 rfl (by assumption))) rfl rfl hok ?_
  refine AA.pure 12 rfl hok (by kernel_rfl) (fun w' b' => R.convI rfl rfl rfl rfl (wrapU (by omega) (by omega))) rfl rfl ?_
  refine AA.pure 14 rfl hok (by kernel_rfl) (fun w' b' => R.mulUN rfl rfl rfl (by omega)) rfl rfl ?_
  refine AA.one 5 (by kernel_rfl) ?_
  refine SR.val rfl (R.load rfl rfl (I.ld1 rfl (by assumption))) rfl rfl hok ?_
  refine AA.pure 6 rfl hok (by kernel_rfl) (fun w' b' => R.convI rfl rfl rfl rfl (wrapU (by omega) (by omega))) rfl rfl ?_
  refine AA.pure 15 rfl hok (by kernel_rfl) (fun w' b' => R.addUN rfl rfl rfl (by omega)) rfl rfl ?_
  refine AA.pure 24 rfl hok (by kernel_rfl) (fun w' b' => R.addUN rfl rfl rfl (by omega)) rfl rfl ?_
  refine AA.pure 25 rfl hok (by kernel_rfl) (fun w' b' => R.index rfl rfl rfl (I.ixA1 rfl (by omega))) rfl rfl ?_
  refine AA.one 26 (by kernel_rfl) ?_
  refine ZR.storeZ rfl rfl rfl (Nat.zero_add _) rfl rfl r10 (by first | omega | (simp only [List.length_set, List.length_replicate]; omega) | (rw [plOf_len]; omega)) rfl rfl ?_
  intro Wb34 rb35 bb33 zb36
  have hlbb33 := r10.lt
  clear r10
  replace q := Zg q bb33; replace r4 := Zd r4 bb33; replace hok := Zo hok bb33
  have r10 := rb35
  clear rb35
  refine ⟨hok, ?_⟩
  refine AA.done rfl ?_
  clear fzr4 hok
  exact EE.weak (Jb9 _ _ ⟨rfl, (by first | assumption | omega), (by first | assumption | omega), (by first | assumption | omega), (by first | assumption | omega)⟩) ⟨rfl, rfl, rfl, rfl, rfl, rfl, rfl, rfl, trivial⟩
theorem wf_u64 {n : Int} (h : (Lit.int .u64 n).wf = true) : 0 ≤ n ∧ n < 18446744073709551616 := by
  simp [Lit.wf, IntKind.min, IntKind.max, IntKind.signed, IntKind.bits] at h; omega
theorem pk_unp {x : Ex} (h : mayE x) : unpE (pkZ x).toNat = x ∧ pkZ x ≠ 0 ∧ 0 ≤ pkZ x ∧ pkZ x < 18446744073709551616 := by
  obtain ⟨f, d, k, rfl, hf, hd, hk⟩ := pkZ_nat h
  unfold mayE at h
  simp only at h
  have e : pkZ ((f : Int), (d : Int), (k : Int)) = ((f + d * 65536 + k * 1099511627776 : Nat) : Int) := by unfold pkZ; simp only; omega
  rw [e]
  refine ⟨?_, by omega, by omega, by omega⟩
  rw [Int.toNat_natCast]
  unfold unpE
  refine Prod.ext ?_ (Prod.ext ?_ ?_)
  · simp only; omega
  · simp only; omega
  · simp only; omega
theorem outZ_map : ∀ {l : List Ex}, (∀ x ∈ l, mayE x) → outZ (l.map pkZ) = l
  | [], _ => rfl
  | x :: l, h => by
    have h1 := pk_unp (h x (by simp))
    have ih := outZ_map (l := l) fun y hy => h y (by simp [hy])
    unfold outZ at ih ⊢
    rw [List.map_cons, List.filter_cons_of_pos (by simp [h1.2.1]), List.map_cons, h1.1, ih]
theorem outZ_wrdZ {l : List Ex} (h : ∀ x ∈ l, mayE x) : outZ (wrdZ l) = l := by
  have h1 := outZ_map h
  unfold outZ wrdZ at *
  rw [List.filter_append, List.map_append, h1]
  have e : (List.replicate (10 - l.length) (0 : Int)).filter (fun z => decide (z ≠ 0)) = [] := by
    rw [List.filter_eq_nil_iff]
    intro z hz
    rw [(List.mem_replicate.1 hz).2]
    simp
  rw [e, List.map_nil, List.append_nil]
theorem wrdZ_bnd {l : List Ex} (h : ∀ x ∈ l, mayE x) (i : Nat) (z : Int) (hz : (wrdZ l)[i]? = some z) : 0 ≤ z ∧ z < 18446744073709551616 := by
  have hm := List.mem_of_getElem? hz
  unfold wrdZ at hm
  rcases List.mem_append.1 hm with hm | hm
  · obtain ⟨x, hx, rfl⟩ := List.mem_map.1 hm
    exact (pk_unp (h x hx)).2.2
  · rw [(List.mem_replicate.1 hm).2]; omega
theorem mapW_wrdZ {l : List Ex} (h : vL l) : mapW (wrdZ l) := by
  unfold mapW
  rw [outZ_wrdZ h.2.1]
  exact ⟨h, rfl⟩
theorem ofw_F (ws : List Int) (w : World) (hs : Start w) (hl : ws.length = 10) (hw : ∀ (i : Nat) (z : Int), ws[i]? = some z → 0 ≤ z ∧ z < 18446744073709551616) (hm : ¬mapW ws) : Calls Tryz.prog 126 #[wdV ws] w fun e w' => e = .returned (.tuple #[.slice none 0 0, .int .i64 2]) ∧ Below w.heap.size w w' :=
  (ofx_any ws w hs hl hw).mono fun e w' ⟨hc, b⟩ => by
    rcases hc with ⟨h1, _⟩ | ⟨_, h1⟩
    · exact absurd h1 hm
    · exact ⟨h1, b⟩
end Go.Proofs.YtaeaokimhbbnfaaGreatDoor
/-
  DERIVED: THE SHELF's CONTRACTS AT THIS DUMP, IN PLAIN WORDS (tools/lay-plain.mjs out of 'TryzShelf.lean', which tools/lay-shelf.mjs wrote): THE SAME DECLARATIONS UNDER THE SAME NAMES: 'import', 'namespace', 'open', 'def', 'theorem' AND NOTHING ELSE: no command of the shelf's: FOR A HAND-IN. Each laying: the table of numbers ('.._ren') and one theorem, a field a fact of the dump's own or the kernel's comparison; each contract: ONE APPLICATION.
-/
namespace Go.Proofs
open Go.Shelf
def Tryz.lays137_ren : Go.Shelf.Ren := ⟨fun | 137 => 112 | 217 => 127 | 266 => 148 | n => n, fun | 9 => 9 | 5 => 5 | 3 => 3 | n => n, fun | n => n⟩
theorem Tryz.lays137 : Go.Proofs.Lays.n137 Tryz.prog Tryz.lays137_ren := {
  mixed := by kernel_rfl
  f137 := Tryz.func112.trans (congrArg some (by kernel_rfl))
  f217 := Tryz.func127.trans (congrArg some (by kernel_rfl))
  f266 := Tryz.func148.trans (congrArg some (by kernel_rfl))
  t3 := Tryz.underlying3
  a3 := Tryz.isAgg3
  z3 := Tryz.sizeOf3
  v3 := Tryz.zeroValue3
  t5 := Tryz.underlying5
  a5 := Tryz.isAgg5
  z5 := Tryz.sizeOf5
  v5 := Tryz.zeroValue5
  t9 := Tryz.underlying9
  a9 := Tryz.isAgg9
  z9 := Tryz.sizeOf9
  v9 := Tryz.zeroValue9 }
open Go.RowKit in
/-- strings.IndexByte: "IndexByte returns the index of the first instance of c in s, or -1 if c is not present in s.": IT RETURNS 'Lib.indexByte s c'; the world is as it was. (LAID: no walk: one application.) -/
theorem Tryz.strings_IndexByte (s : ByteArray) (c : Int) (w : World) :
    Calls Tryz.prog 112 #[.string s, .int .u8 c] w fun e w' => e = .returned (.int .i64 (Lib.indexByte s.data.toList c.toNat.toUInt8)) ∧ w' = w := Any.strings_IndexByte Tryz.lays137 s c w
end Go.Proofs
namespace Go.Proofs.YtaeaokimhbbnfaaGreatDoor
set_option linter.unusedVariables false
set_option linter.unusedSimpArgs false
open Go.RowKit Go.Shelf
set_option maxRecDepth 100000
set_option maxHeartbeats 8000000
/-- An inode's value. -/
abbrev inL (k l z : Int) (a : Value) (r p : Int) (t : Bs) : List Value := [.int .i64 k, .int .i64 l, .int .i64 z, a, .int .i64 r, .int .i64 p, strV t]
abbrev inV (k l z : Int) (a : Value) (r p : Int) (t : Bs) : Value := .agg #[.int .i64 k, .int .i64 l, .int .i64 z, a, .int .i64 r, .int .i64 p, strV t]
theorem within_any (n lo hi : Int) (w : World) : Calls Tryz.prog 106 #[.int .i64 n, .int .i64 lo, .int .i64 hi] w fun e w' => e = .returned (.bool (decide (lo ≤ n ∧ n ≤ hi))) ∧ w = w' := by
  by_cases h1 : lo ≤ n
  · by_cases h2 : n ≤ hi
    · rw [decide_eq_true (by omega)]
      refine X.fn Tryz.func106 rfl (n := 15) rfl rfl ?_
      refine Zr ?_; refine Za ?_; refine Zq ?_; refine Zr ?_; refine Zm ?_; refine Zm ?_; refine ZleT ?_; refine Zm ?_; refine Zm ?_; refine Zm ?_; refine ZleT ?_; refine Zp ?_; refine Za ?_; refine Zq ?_; refine ZR ?_; refine EE.ret _ rfl rfl ?_
      exact ⟨rfl, rfl⟩
    · rw [decide_eq_false (by omega)]
      refine X.fn Tryz.func106 rfl (n := 15) rfl rfl ?_
      refine Zr ?_; refine Za ?_; refine Zq ?_; refine Zr ?_; refine Zm ?_; refine Zm ?_; refine ZleT ?_; refine Zm ?_; refine Zm ?_; refine Zm ?_; refine ZleF ?_; refine Zp ?_; refine Za ?_; refine Zq ?_; refine ZR ?_; refine EE.ret _ rfl rfl ?_
      exact ⟨rfl, rfl⟩
  · rw [decide_eq_false (by omega)]
    refine X.fn Tryz.func106 rfl (n := 15) rfl rfl ?_
    refine Zr ?_; refine Za ?_; refine Zq ?_; refine Zr ?_; refine Zm ?_; refine Zm ?_; refine ZleF ?_; refine Zm ?_; refine Zs ?_; refine Zs ?_; refine Zs ?_; refine Zp ?_; refine Za ?_; refine Zq ?_; refine ZR ?_; refine EE.ret _ rfl rfl ?_
    exact ⟨rfl, rfl⟩
theorem within_T (n lo hi : Int) (w : World) (h : lo ≤ n ∧ n ≤ hi) : Calls Tryz.prog 106 #[.int .i64 n, .int .i64 lo, .int .i64 hi] w fun e w' => e = .returned (.bool true) ∧ w = w' := by
  have := within_any n lo hi w
  rw [decide_eq_true h] at this
  exact this
theorem within_F (n lo hi : Int) (w : World) (h : n < lo ∨ hi < n) : Calls Tryz.prog 106 #[.int .i64 n, .int .i64 lo, .int .i64 hi] w fun e w' => e = .returned (.bool false) ∧ w = w' := by
  have := within_any n lo hi w
  rw [decide_eq_false (by omega)] at this
  exact this
/-- What a refusal is. -/
abbrev refV : Value := .iface 160 (.agg #[.int .i64 240])
theorem refuse_F (w : World) : Calls Tryz.prog 78 #[.bool false] w fun x w' => x = .returned (.tuple #[]) ∧ w = w' := by
  refine X.fn Tryz.func78 rfl (n := 5) rfl rfl ?_
  refine Zr ?_; refine Zm ?_; refine Zq ?_; refine ZN ?_; refine ZK ?_; refine EE.end _ rfl rfl ?_
  exact ⟨rfl, rfl⟩
--C inode_refuse | refuse_T @w | P ⟨rfl, rfl⟩
theorem refuse_T (w : World) : Calls Tryz.prog 78 #[.bool true] w fun x w' => x = .panicked (chain1 refV) ∧ w = w' := by
  refine X.fn Tryz.func78 rfl (n := 5) rfl rfl ?_
  refine Zr ?_; refine Zm ?_; refine Zq ?_; refine ZY ?_; refine CC.region ?_
  refine LL.val (R.buildV rfl rfl (v := .agg #[Value.int IntKind.i64 240]) (fun _ => by kernel_rfl)) rfl rfl rfl ?_
  refine LL.val (R.mkIface rfl rfl (by kernel_rfl)) rfl rfl rfl ?_
  refine LL.panic rfl rfl rfl ?_; refine EE.pan ?_
  exact ⟨rfl, rfl⟩
theorem number_T (x : Nat) (w : World) (h : x ≤ 65536) : Calls Tryz.prog 109 #[.int .u64 (x : Int)] w fun e w' => e = .returned (.int .i64 (x : Int)) ∧ w = w' := by
  refine X.fn Tryz.func109 rfl (n := 8) rfl rfl ?_
  refine Zr ?_; refine Za ?_; refine Zq ?_; refine Zr ?_; refine Zm ?_; refine ZgtF ?_
  refine Zy (R.call rfl rfl rfl) (refuse_F _) ?_
  rintro e W' ⟨rfl, rfl⟩
  refine ⟨_, rfl, ?_⟩; refine Zq ?_; refine Zr ?_; refine Zm ?_
  refine LL.val (R.convI rfl rfl rfl rfl (wrapI (by omega) (by omega))) rfl rfl rfl ?_
  refine Za ?_; refine Zq ?_; refine ZR ?_; refine EE.ret _ rfl rfl ?_
  exact ⟨rfl, rfl⟩
theorem number_F (x : Nat) (w : World) (h : 65536 < x) : Calls Tryz.prog 109 #[.int .u64 (x : Int)] w fun e w' => e = .panicked (chain1 refV) ∧ w = w' := by
  refine X.fnP Tryz.func109 rfl (n := 8) rfl rfl ?_
  refine Zr ?_; refine Za ?_; refine Zq ?_; refine Zr ?_; refine Zm ?_; refine ZgtT ?_
  refine LL.callP (R.call rfl rfl rfl) rfl rfl (refuse_T _) ?_
  rintro e W2 ⟨rfl, rfl⟩
  refine ⟨_, rfl, ?_⟩; refine EE.thenP ?_; refine EE.panM ?_
  exact ⟨rfl, rfl⟩
theorem zKeys : KeyE Tryz.prog 77 (.int .i64) (fun z : Int => .int .i64 z) := ⟨by kernel_rfl, fun _ => rfl, fun a b h => by
  simp only [Value.int.injEq, true_and] at h
  exact h⟩
/-- What a kind has: four functions. -/
abbrev fnV (f : Nat) : Value := .func (.func f) #[] #[]
def kdV (x : Nat × Nat × Nat × Nat) : Value := .agg #[fnV x.1, fnV x.2.1, fnV x.2.2.1, fnV x.2.2.2]
def kd0 : Nat × Nat × Nat × Nat := (96, 97, 98, 99)
def kd1 : Nat × Nat × Nat × Nat := (100, 101, 102, 103)
def kd2 : Nat × Nat × Nat × Nat := (104, 105, 107, 108)
def kd3 : Nat × Nat × Nat × Nat := (110, 111, 113, 115)
def kindsF : Int → Option (Nat × Nat × Nat × Nat) := putMap (putMap (putMap (putMap (fun _ => none) 0 (some kd0)) 1 (some kd1)) 2 (some kd2)) 3 (some kd3)
abbrev KMap (w : World) (m n : Nat) : Prop := MapK (.int .i64) (fun z : Int => .int .i64 z) kdV w m n kindsF
theorem kinds_any (w : World) : Calls Tryz.prog 80 #[] w fun e w' => ∃ m n, e = .returned (.map (some m)) ∧ KMap w' m n ∧ Below w.heap.size w w' := by
  have q := Below.refl w.heap.size w
  refine X.fn Tryz.func80 rfl (n := 7) rfl rfl ?_
  refine Zr ?_; refine Za ?_; refine Zq ?_; refine Zr ?_
  (refine LL.makeMap (R.makeMap0 rfl) rfl rfl rfl ?_; intro W39 qb eqb mk zqb b36; replace mk := mk Int (Nat × Nat × Nat × Nat) (.int .i64) (fun z : Int => .int .i64 z) kdV)
  have zb36 := b36.size; replace q := Zu q b36
  refine LL.val (R.buildV rfl rfl (v := .agg #[Value.func (Fn.func 96) #[] #[], Value.func (Fn.func 97) #[] #[], Value.func (Fn.func 98) #[] #[], Value.func (Fn.func 99) #[] #[]]) (fun _ => by kernel_rfl)) rfl rfl rfl ?_
  (refine LL.mput (.inr rfl) rfl zKeys rfl mk (0 : Int) kd0 rfl rfl rfl rfl rfl ?_; intro W88 mq gr86 zz5; replace mk := mq; clear mq)
  have zgr86 := gr86.size; replace q := Zg q gr86
  refine LL.val (R.buildV rfl rfl (v := .agg #[Value.func (Fn.func 100) #[] #[], Value.func (Fn.func 101) #[] #[], Value.func (Fn.func 102) #[] #[], Value.func (Fn.func 103) #[] #[]]) (fun _ => by kernel_rfl)) rfl rfl rfl ?_
  (refine LL.mput (.inr rfl) rfl zKeys rfl mk (1 : Int) kd1 rfl rfl rfl rfl rfl ?_; intro W144 mq gr142 zz5; replace mk := mq; clear mq)
  have zgr142 := gr142.size; replace q := Zg q gr142
  refine LL.val (R.buildV rfl rfl (v := .agg #[Value.func (Fn.func 104) #[] #[], Value.func (Fn.func 105) #[] #[], Value.func (Fn.func 107) #[] #[], Value.func (Fn.func 108) #[] #[]]) (fun _ => by kernel_rfl)) rfl rfl rfl ?_
  (refine LL.mput (.inr rfl) rfl zKeys rfl mk (2 : Int) kd2 rfl rfl rfl rfl rfl ?_; intro W207 mq gr205 zz5; replace mk := mq; clear mq)
  have zgr205 := gr205.size; replace q := Zg q gr205
  refine LL.val (R.buildV rfl rfl (v := .agg #[Value.func (Fn.func 110) #[] #[], Value.func (Fn.func 111) #[] #[], Value.func (Fn.func 113) #[] #[], Value.func (Fn.func 115) #[] #[]]) (fun _ => by kernel_rfl)) rfl rfl rfl ?_
  (refine LL.mput (.inr rfl) rfl zKeys rfl mk (3 : Int) kd3 rfl rfl rfl rfl rfl ?_; intro W277 mq gr275 zz5; replace mk := mq; clear mq)
  have zgr275 := gr275.size; replace q := Zg q gr275; refine Zm ?_; refine Za ?_; refine Zq ?_; refine ZR ?_; refine EE.ret _ rfl rfl ?_
  exact ⟨_, _, rfl, mk, q⟩
theorem idx_mem (l : Bs) (c : UInt8) : (0 ≤ Lib.indexByte l c ↔ c ∈ l) := by
  have hge := Lib.indexByte_ge l c
  constructor
  · intro h
    obtain ⟨i, hi⟩ : ∃ i : Nat, Lib.indexByte l c = i := ⟨(Lib.indexByte l c).toNat, by omega⟩
    exact List.mem_of_getElem? (Lib.indexByte_some hi).1
  · intro h
    obtain ⟨k, hk⟩ := List.mem_iff_getElem?.1 h
    rcases Int.lt_or_le (Lib.indexByte l c) 0 with h0 | h0
    · exact absurd hk (Lib.indexByte_none (by omega) k)
    · exact h0
theorem idx_any (l : Bs) (w : World) : Calls Tryz.prog 112 #[strV l, .int .u8 0] w fun e w' => e = .returned (.int .i64 (Lib.indexByte l 0)) ∧ w = w' :=
  (Tryz.strings_IndexByte ⟨l.toArray⟩ 0 w).mono fun e w' ⟨he, hw⟩ => ⟨by rw [he]; rfl, hw.symm⟩
section
variable (k l z : Int) (a : Value) (r p : Int) (t : Bs)
theorem nm0_any (w : World) : Calls Tryz.prog 96 #[inV k l z a r p t] w fun e w' => e = .returned (inV 0 0 0 (.slice none 0 0) 0 0 []) ∧ Below w.heap.size w w' := by
  have q := Below.refl w.heap.size w
  refine X.fn Tryz.func96 rfl (n := 4) rfl rfl ?_
  refine Zr ?_
  refine LL.box [.int .i64 k, .int .i64 l, .int .i64 z, a, .int .i64 r, .int .i64 p, strV t] rfl rfl rfl rfl rfl ?_
  intro W2 g3 eg3 r4 z5 b1
  replace q := Zu q b1; have l6 := r4.lt
  refine LL.alloc ([.int .i64 0, .int .i64 0, .int .i64 0, .slice none 0 0, .int .i64 0, .int .i64 0, .string { data := { toList := [] } }]) rfl rfl rfl rfl rfl ?_
  intro W8 g9 eg9 r10 z11 b7
  replace r4 := r4.up b7; replace q := Zu q b7; refine Zq ?_; refine Zr ?_
  refine LL.val (R.buildV rfl rfl (v := .agg #[Value.int IntKind.i64 0, Value.int IntKind.i64 0, Value.int IntKind.i64 0, Value.slice none 0 0, Value.int IntKind.i64 0, Value.int IntKind.i64 0, Value.string { data := #[] }]) (fun _ => by kernel_rfl)) rfl rfl rfl ?_
  refine LL.storeN (vs := [.int .i64 0, .int .i64 0, .int .i64 0, .slice none 0 0, .int .i64 0, .int .i64 0, .string { data := #[] }]) rfl rfl rfl rfl r10 (by exact Nat.le_of_ble_eq_true rfl) (ones_of rfl) rfl rfl ?_
  intro W13 r14 b12 z15
  have hlb12 := r10.lt
  replace r14 : RowL W13 _ 80 [.int .i64 0, .int .i64 0, .int .i64 0, .slice none 0 0, .int .i64 0, .int .i64 0, .string { data := #[] }] := r14
  clear r10
  replace r4 := Zd r4 b12; replace q := Zg q b12
  have r10 := r14
  clear r14
  refine Zq ?_; refine ZR ?_
  refine EE.retC rfl rfl (lvNc (RowL.cells0 (by assumption)) (by rfl) (by rfl)) ?_
  exact ⟨rfl, q⟩
theorem nm1_any (w : World) (ha : ∃ x n c, a = .slice x n c) : Calls Tryz.prog 100 #[inV k l z a r p t] w fun e w' => e = .returned (inV k l z a 0 0 []) ∧ Below w.heap.size w w' := by
  have q := Below.refl w.heap.size w
  obtain ⟨xa, na, ca, rfl⟩ := ha
  refine X.fn Tryz.func100 rfl (n := 12) rfl rfl ?_
  refine Zr ?_
  refine LL.box [.int .i64 k, .int .i64 l, .int .i64 z, .slice xa na ca, .int .i64 r, .int .i64 p, strV t] rfl rfl rfl rfl rfl ?_
  intro W2 g3 eg3 r4 z5 b1
  replace q := Zu q b1; have l6 := r4.lt
  refine LL.alloc ([.int .i64 0, .int .i64 0, .int .i64 0, .slice none 0 0, .int .i64 0, .int .i64 0, .string { data := { toList := [] } }]) rfl rfl rfl rfl rfl ?_
  intro W8 g9 eg9 r10 z11 b7
  replace r4 := r4.up b7; replace q := Zu q b7; refine Zq ?_; refine Zr ?_; refine Zf ?_; refine Zl r4 ?_; refine Zf ?_; refine Zl r4 ?_; refine Zf ?_; refine Zl r4 ?_; refine Zf ?_; refine Zl r4 ?_
  refine LL.val (R.buildV rfl rfl (v := .agg #[Value.int IntKind.i64 k, Value.int IntKind.i64 l, Value.int IntKind.i64 z, Value.slice xa na ca, Value.int IntKind.i64 0, Value.int IntKind.i64 0, Value.string { data := #[] }]) (fun _ => by kernel_rfl)) rfl rfl rfl ?_
  refine LL.storeN (vs := [.int .i64 k, .int .i64 l, .int .i64 z, .slice xa na ca, .int .i64 0, .int .i64 0, .string { data := #[] }]) rfl rfl rfl rfl r10 (by exact Nat.le_of_ble_eq_true rfl) (ones_of rfl) rfl rfl ?_
  intro W13 r14 b12 z15
  have hlb12 := r10.lt
  replace r14 : RowL W13 _ 80 [.int .i64 k, .int .i64 l, .int .i64 z, .slice xa na ca, .int .i64 0, .int .i64 0, .string { data := #[] }] := r14
  clear r10
  replace r4 := Zd r4 b12; replace q := Zg q b12
  have r10 := r14
  clear r14
  refine Zq ?_; refine ZR ?_
  refine EE.retC rfl rfl (lvNc (RowL.cells0 (by assumption)) (by rfl) (by rfl)) ?_
  exact ⟨rfl, q⟩
theorem nm2_any (w : World) (ha : ∃ x n c, a = .slice x n c) : Calls Tryz.prog 104 #[inV k l z a r p t] w fun e w' => e = .returned (inV k l 0 (.slice none 0 0) r p []) ∧ Below w.heap.size w w' := by
  have q := Below.refl w.heap.size w
  obtain ⟨xa, na, ca, rfl⟩ := ha
  refine X.fn Tryz.func104 rfl (n := 12) rfl rfl ?_
  refine Zr ?_
  refine LL.box [.int .i64 k, .int .i64 l, .int .i64 z, .slice xa na ca, .int .i64 r, .int .i64 p, strV t] rfl rfl rfl rfl rfl ?_
  intro W2 g3 eg3 r4 z5 b1
  replace q := Zu q b1; have l6 := r4.lt
  refine LL.alloc ([.int .i64 0, .int .i64 0, .int .i64 0, .slice none 0 0, .int .i64 0, .int .i64 0, .string { data := { toList := [] } }]) rfl rfl rfl rfl rfl ?_
  intro W8 g9 eg9 r10 z11 b7
  replace r4 := r4.up b7; replace q := Zu q b7; refine Zq ?_; refine Zr ?_; refine Zf ?_; refine Zl r4 ?_; refine Zf ?_; refine Zl r4 ?_; refine Zf ?_; refine Zl r4 ?_; refine Zf ?_; refine Zl r4 ?_
  refine LL.val (R.buildV rfl rfl (v := .agg #[Value.int IntKind.i64 k, Value.int IntKind.i64 l, Value.int IntKind.i64 0, Value.slice none 0 0, Value.int IntKind.i64 r, Value.int IntKind.i64 p, Value.string { data := #[] }]) (fun _ => by kernel_rfl)) rfl rfl rfl ?_
  refine LL.storeN (vs := [.int .i64 k, .int .i64 l, .int .i64 0, .slice none 0 0, .int .i64 r, .int .i64 p, .string { data := #[] }]) rfl rfl rfl rfl r10 (by exact Nat.le_of_ble_eq_true rfl) (ones_of rfl) rfl rfl ?_
  intro W13 r14 b12 z15
  have hlb12 := r10.lt
  replace r14 : RowL W13 _ 80 [.int .i64 k, .int .i64 l, .int .i64 0, .slice none 0 0, .int .i64 r, .int .i64 p, .string { data := #[] }] := r14
  clear r10
  replace r4 := Zd r4 b12; replace q := Zg q b12
  have r10 := r14
  clear r14
  refine Zq ?_; refine ZR ?_
  refine EE.retC rfl rfl (lvNc (RowL.cells0 (by assumption)) (by rfl) (by rfl)) ?_
  exact ⟨rfl, q⟩
theorem nm3_any (w : World) (ha : ∃ x n c, a = .slice x n c) : Calls Tryz.prog 110 #[inV k l z a r p t] w fun e w' => e = .returned (inV k l 0 (.slice none 0 0) 0 0 t) ∧ Below w.heap.size w w' := by
  have q := Below.refl w.heap.size w
  obtain ⟨xa, na, ca, rfl⟩ := ha
  refine X.fn Tryz.func110 rfl (n := 10) rfl rfl ?_
  refine Zr ?_
  refine LL.box [.int .i64 k, .int .i64 l, .int .i64 z, .slice xa na ca, .int .i64 r, .int .i64 p, strV t] rfl rfl rfl rfl rfl ?_
  intro W2 g3 eg3 r4 z5 b1
  replace q := Zu q b1; have l6 := r4.lt
  refine LL.alloc ([.int .i64 0, .int .i64 0, .int .i64 0, .slice none 0 0, .int .i64 0, .int .i64 0, .string { data := { toList := [] } }]) rfl rfl rfl rfl rfl ?_
  intro W8 g9 eg9 r10 z11 b7
  replace r4 := r4.up b7; replace q := Zu q b7; refine Zq ?_; refine Zr ?_; refine Zf ?_; refine Zl r4 ?_; refine Zf ?_; refine Zl r4 ?_; refine Zf ?_; refine Zl r4 ?_
  refine LL.val (R.buildV rfl rfl (v := .agg #[Value.int IntKind.i64 k, Value.int IntKind.i64 l, Value.int IntKind.i64 0, Value.slice none 0 0, Value.int IntKind.i64 0, Value.int IntKind.i64 0, Value.string { data := List.toArray t }]) (fun _ => by kernel_rfl)) rfl rfl rfl ?_
  refine LL.storeN (vs := [.int .i64 k, .int .i64 l, .int .i64 0, .slice none 0 0, .int .i64 0, .int .i64 0, .string { data := List.toArray t }]) rfl rfl rfl rfl r10 (by exact Nat.le_of_ble_eq_true rfl) (ones_of rfl) rfl rfl ?_
  intro W13 r14 b12 z15
  have hlb12 := r10.lt
  replace r14 : RowL W13 _ 80 [.int .i64 k, .int .i64 l, .int .i64 0, .slice none 0 0, .int .i64 0, .int .i64 0, .string { data := List.toArray t }] := r14
  clear r10
  replace r4 := Zd r4 b12; replace q := Zg q b12
  have r10 := r14
  clear r14
  refine Zq ?_; refine ZR ?_
  refine EE.retC rfl rfl (lvNc (RowL.cells0 (by assumption)) (by rfl) (by rfl)) ?_
  exact ⟨rfl, q⟩
theorem my0_any (w : World) (ha : ∃ x n c, a = .slice x n c) : Calls Tryz.prog 97 #[inV k l z a r p t] w fun e w' => e = .returned (.bool true) ∧ Below w.heap.size w w' := by
  have q := Below.refl w.heap.size w
  obtain ⟨xa, na, ca, rfl⟩ := ha
  refine X.fn Tryz.func97 rfl (n := 3) rfl rfl ?_
  refine Zr ?_
  refine LL.box [.int .i64 k, .int .i64 l, .int .i64 z, .slice xa na ca, .int .i64 r, .int .i64 p, strV t] rfl rfl rfl rfl rfl ?_
  intro W2 g3 eg3 r4 z5 b1
  replace q := Zu q b1; refine Za ?_; refine Zq ?_; refine Zr ?_; refine Za ?_; refine Zq ?_; refine ZR ?_; refine EE.ret _ rfl rfl ?_
  exact ⟨rfl, q⟩
theorem my2_T (w : World) (ha : ∃ x n c, a = .slice x n c) (h : (1 ≤ r ∧ r ≤ 2047) ∧ 1 ≤ p ∧ p ≤ 256) : Calls Tryz.prog 105 #[inV k l z a r p t] w fun e w' => e = .returned (.bool true) ∧ Below w.heap.size w w' := by
  have q := Below.refl w.heap.size w
  obtain ⟨xa, na, ca, rfl⟩ := ha
  refine X.fn Tryz.func105 rfl (n := 13) rfl rfl ?_
  refine Zr ?_
  refine LL.box [.int .i64 k, .int .i64 l, .int .i64 z, .slice xa na ca, .int .i64 r, .int .i64 p, strV t] rfl rfl rfl rfl rfl ?_
  intro W2 g3 eg3 r4 z5 b1
  replace q := Zu q b1; refine Za ?_; refine Zq ?_; refine Zr ?_; refine Zf ?_; refine Zf ?_; refine Zl r4 ?_
  (refine Zy (R.call rfl rfl rfl) (within_T _ _ _ _ (by omega)) ?_; rintro e _ ⟨rfl, rfl⟩; refine ⟨_, rfl, ?_⟩)
  refine Zm ?_; refine Zf ?_; refine Zf ?_; refine Zl r4 ?_
  (refine Zy (R.call rfl rfl rfl) (within_T _ _ _ _ (by omega)) ?_; rintro e _ ⟨rfl, rfl⟩; refine ⟨_, rfl, ?_⟩)
  refine Zp ?_; refine Za ?_; refine Zq ?_; refine ZR ?_; refine EE.ret _ rfl rfl ?_
  exact ⟨rfl, q⟩
end
set_option linter.unusedVariables false
set_option linter.unusedSimpArgs false
set_option maxRecDepth 100000
set_option maxHeartbeats 8000000
def fitF (z : Int) (m : List Ex) : Prop := ∀ x ∈ m, x.1 + x.2.2 ≤ (z + 511) / 512
def okF (z : Int) (m : List Ex) : Prop := (0 ≤ z ∧ z ≤ 65536) ∧ vL m ∧ fitF z m
section
variable (k l z : Int) (a : Value) (r p : Int) (t : Bs)
theorem my2_F (w : World) (ha : ∃ x n c, a = .slice x n c) (h : ¬((1 ≤ r ∧ r ≤ 2047) ∧ 1 ≤ p ∧ p ≤ 256)) : Calls Tryz.prog 105 #[inV k l z a r p t] w fun e w' => e = .returned (.bool false) ∧ Below w.heap.size w w' := by
  have q := Below.refl w.heap.size w
  obtain ⟨xa, na, ca, rfl⟩ := ha
  by_cases h1 : 1 ≤ r ∧ r ≤ 2047
  · have h2 : p < 1 ∨ 256 < p := by omega
    refine X.fn Tryz.func105 rfl (n := 13) rfl rfl ?_
    refine Zr ?_
    refine LL.box [.int .i64 k, .int .i64 l, .int .i64 z, .slice xa na ca, .int .i64 r, .int .i64 p, strV t] rfl rfl rfl rfl rfl ?_
    intro W2 g3 eg3 r4 z5 b1
    replace q := Zu q b1; refine Za ?_; refine Zq ?_; refine Zr ?_; refine Zf ?_; refine Zf ?_; refine Zl r4 ?_
    (refine Zy (R.call rfl rfl rfl) (within_T r 1 2047 _ h1) ?_; rintro e _ ⟨rfl, rfl⟩; refine ⟨_, rfl, ?_⟩)
    refine Zm ?_; refine Zf ?_; refine Zf ?_; refine Zl r4 ?_
    (refine Zy (R.call rfl rfl rfl) (within_F p 1 256 _ h2) ?_; rintro e _ ⟨rfl, rfl⟩; refine ⟨_, rfl, ?_⟩)
    refine Zp ?_; refine Za ?_; refine Zq ?_; refine ZR ?_; refine EE.ret _ rfl rfl ?_
    exact ⟨rfl, q⟩
  · have h2 : r < 1 ∨ 2047 < r := by omega
    refine X.fn Tryz.func105 rfl (n := 13) rfl rfl ?_
    refine Zr ?_
    refine LL.box [.int .i64 k, .int .i64 l, .int .i64 z, .slice xa na ca, .int .i64 r, .int .i64 p, strV t] rfl rfl rfl rfl rfl ?_
    intro Wa2 ga3 ega3 ra4 za5 ba1
    replace q := Zu q ba1; refine Za ?_; refine Zq ?_; refine Zr ?_; refine Zf ?_; refine Zf ?_; refine Zl ra4 ?_
    (refine Zy (R.call rfl rfl rfl) (within_F r 1 2047 _ h2) ?_; rintro e _ ⟨rfl, rfl⟩; refine ⟨_, rfl, ?_⟩)
    refine Zm ?_; refine Zs ?_; refine Zs ?_; refine Zs ?_; refine Zs ?_; refine Zp ?_; refine Za ?_; refine Zq ?_; refine ZR ?_; refine EE.ret _ rfl rfl ?_
    exact ⟨rfl, q⟩
theorem my3_T (w : World) (ha : ∃ x n c, a = .slice x n c) (h : (1 ≤ t.length ∧ t.length ≤ 112) ∧ (0 : UInt8) ∉ t) : Calls Tryz.prog 111 #[inV k l z a r p t] w fun e w' => e = .returned (.bool true) ∧ Below w.heap.size w w' := by
  have q := Below.refl w.heap.size w
  obtain ⟨xa, na, ca, rfl⟩ := ha
  have hm : Lib.indexByte t 0 < 0 := by
    have := idx_mem t 0
    rcases Int.lt_or_le (Lib.indexByte t 0) 0 with h0 | h0
    · exact h0
    · exact absurd (this.1 h0) h.2
  refine X.fn Tryz.func111 rfl (n := 15) rfl rfl ?_
  refine Zr ?_
  refine LL.box [.int .i64 k, .int .i64 l, .int .i64 z, .slice xa na ca, .int .i64 r, .int .i64 p, strV t] rfl rfl rfl rfl rfl ?_
  intro W2 g3 eg3 r4 z5 b1
  replace q := Zu q b1; refine Za ?_; refine Zq ?_; refine Zr ?_; refine Zf ?_; refine Zf ?_; refine Zl r4 ?_
  refine LL.val (R.lenS rfl rfl rfl rfl) rfl rfl rfl ?_
  (refine Zy (R.call rfl rfl rfl) (within_T (t.length : Int) 1 112 _ (by omega)) ?_; rintro e _ ⟨rfl, rfl⟩; refine ⟨_, rfl, ?_⟩)
  refine Zm ?_; refine Zf ?_; refine Zf ?_; refine Zl r4 ?_
  refine Zy (R.call rfl rfl rfl) (idx_any _ _) ?_
  rintro e W' ⟨rfl, rfl⟩
  refine ⟨_, rfl, ?_⟩; refine ZltT ?_; refine Zp ?_; refine Za ?_; refine Zq ?_; refine ZR ?_; refine EE.ret _ rfl rfl ?_
  exact ⟨rfl, q⟩
theorem my3_F (w : World) (ha : ∃ x n c, a = .slice x n c) (hl : t.length ≤ 1048576) (h : ¬((1 ≤ t.length ∧ t.length ≤ 112) ∧ (0 : UInt8) ∉ t)) : Calls Tryz.prog 111 #[inV k l z a r p t] w fun e w' => e = .returned (.bool false) ∧ Below w.heap.size w w' := by
  have q := Below.refl w.heap.size w
  obtain ⟨xa, na, ca, rfl⟩ := ha
  by_cases h1 : 1 ≤ t.length ∧ t.length ≤ 112
  · have hm : 0 ≤ Lib.indexByte t 0 := (idx_mem t 0).2 (Classical.not_not.1 fun h2 => h ⟨h1, h2⟩)
    refine X.fn Tryz.func111 rfl (n := 15) rfl rfl ?_
    refine Zr ?_
    refine LL.box [.int .i64 k, .int .i64 l, .int .i64 z, .slice xa na ca, .int .i64 r, .int .i64 p, strV t] rfl rfl rfl rfl rfl ?_
    intro W2 g3 eg3 r4 z5 b1
    replace q := Zu q b1; refine Za ?_; refine Zq ?_; refine Zr ?_; refine Zf ?_; refine Zf ?_; refine Zl r4 ?_
    refine LL.val (R.lenS rfl rfl rfl rfl) rfl rfl rfl ?_
    (refine Zy (R.call rfl rfl rfl) (within_T (t.length : Int) 1 112 _ (by omega)) ?_; rintro e _ ⟨rfl, rfl⟩; refine ⟨_, rfl, ?_⟩)
    refine Zm ?_; refine Zf ?_; refine Zf ?_; refine Zl r4 ?_
    refine Zy (R.call rfl rfl rfl) (idx_any _ _) ?_
    rintro e W' ⟨rfl, rfl⟩
    refine ⟨_, rfl, ?_⟩; refine ZltF ?_; refine Zp ?_; refine Za ?_; refine Zq ?_; refine ZR ?_; refine EE.ret _ rfl rfl ?_
    exact ⟨rfl, q⟩
  · clear h
    refine X.fn Tryz.func111 rfl (n := 15) rfl rfl ?_
    refine Zr ?_
    refine LL.box [.int .i64 k, .int .i64 l, .int .i64 z, .slice xa na ca, .int .i64 r, .int .i64 p, strV t] rfl rfl rfl rfl rfl ?_
    intro Wa2 ga3 ega3 ra4 za5 ba1
    replace q := Zu q ba1; refine Za ?_; refine Zq ?_; refine Zr ?_; refine Zf ?_; refine Zf ?_; refine Zl ra4 ?_
    refine LL.val (R.lenS rfl rfl rfl rfl) rfl rfl rfl ?_
    (refine Zy (R.call rfl rfl rfl) (within_F (t.length : Int) 1 112 _ (by omega)) ?_; rintro e _ ⟨rfl, rfl⟩; refine ⟨_, rfl, ?_⟩)
    refine Zm ?_; refine Zs ?_; refine Zs ?_; refine Zs ?_; refine Zs ?_; refine Zs ?_; refine Zp ?_; refine Za ?_; refine Zq ?_; refine ZR ?_; refine EE.ret _ rfl rfl ?_
    exact ⟨rfl, q⟩
end
theorem my1_bad (k l z : Int) (x : Option Addr) (n c : Nat) (r p : Int) (t : Bs) (m : List Ex) (w : World) (hv : ReadsT eE 3 w (.slice x n c) m) (hlen : m.length ≤ 1048576) (h : z < 0 ∨ 65536 < z ∨ ¬vL m) : Calls Tryz.prog 101 #[inV k l z (.slice x n c) r p t] w fun e w' => e = .returned (.bool false) ∧ Below w.heap.size w w' := by
  have q := Below.refl w.heap.size w
  have hvF : ∀ X, Below w.heap.size w X → ReadsT eE 3 X (.slice x n c) m := fun X b => hv.up b
  clear hv
  by_cases h1 : 0 ≤ z ∧ z ≤ 65536
  · have hm : ¬vL m := by rcases h with h | h | h; omega; omega; exact h
    clear h
    refine X.fn Tryz.func101 rfl (n := 38) rfl rfl ?_
    refine Zr ?_
    refine LL.box [.int .i64 k, .int .i64 l, .int .i64 z, .slice x n c, .int .i64 r, .int .i64 p, strV t] rfl rfl rfl rfl rfl ?_
    intro W2 g3 eg3 r4 z5 b1
    replace q := Zu q b1; refine Za ?_; refine Zq ?_; refine Zc ?_; refine Zr ?_; refine Zf ?_; refine Zf ?_; refine Zl r4 ?_
    refine Zy (R.call rfl rfl rfl) (within_T _ _ _ _ (by first | assumption | omega)) ?_
    rintro e W' ⟨rfl, rfl⟩
    refine ⟨_, rfl, ?_⟩; refine Zt ?_; refine Zm ?_; refine Zf ?_; refine Zf ?_; refine Zl r4 ?_
    refine Zy (R.call rfl rfl rfl) (check_F _ m _ (hvF _ q) hlen hm) ?_
    rintro e W7 ⟨rfl, b6⟩
    refine ⟨_, rfl, ?_⟩; have zb6 := b6.size; replace r4 := r4.up b6; replace q := Zu q b6; refine ZneT ?_; refine Zp ?_; refine Zq ?_; refine ZY ?_; refine Zr ?_; refine Za ?_; refine Zq ?_; refine ZR ?_; refine EE.thenR ?_; refine EE.ret _ rfl rfl ?_
    exact ⟨rfl, q⟩
  · clear h
    refine X.fn Tryz.func101 rfl (n := 38) rfl rfl ?_
    refine Zr ?_
    refine LL.box [.int .i64 k, .int .i64 l, .int .i64 z, .slice x n c, .int .i64 r, .int .i64 p, strV t] rfl rfl rfl rfl rfl ?_
    intro Wa2 ga3 ega3 ra4 za5 ba1
    replace q := Zu q ba1; refine Za ?_; refine Zq ?_; refine Zc ?_; refine Zr ?_; refine Zf ?_; refine Zf ?_; refine Zl ra4 ?_
    refine Zy (R.call rfl rfl rfl) (within_F _ _ _ _ (by first | assumption | omega)) ?_
    rintro e W' ⟨rfl, rfl⟩
    refine ⟨_, rfl, ?_⟩; refine Zt ?_; refine Zm ?_; refine Zs ?_; refine Zs ?_; refine Zs ?_; refine Zs ?_; refine Zs ?_; refine Zp ?_; refine Zq ?_; refine ZY ?_; refine Zr ?_; refine Za ?_; refine Zq ?_; refine ZR ?_; refine EE.thenR ?_; refine EE.ret _ rfl rfl ?_
    exact ⟨rfl, q⟩
theorem my1_any (k l z : Int) (x : Option Addr) (n c : Nat) (r p : Int) (t : Bs) (m : List Ex) (w : World) (hv : ReadsT eE 3 w (.slice x n c) m) (hz : 0 ≤ z ∧ z ≤ 65536) (hm : vL m) (b : Bool) (hb : b = true ↔ fitF z m) : Calls Tryz.prog 101 #[inV k l z (.slice x n c) r p t] w fun e w' => e = .returned (.bool b) ∧ Below w.heap.size w w' := by
  have q := Below.refl w.heap.size w
  have hvF : ∀ X, Below w.heap.size w X → ReadsT eE 3 X (.slice x n c) m := fun X b => hv.up b
  have hlen : m.length ≤ 1048576 := by have := hm.1; omega
  have hn : m.length = n := by obtain ⟨_, _, e, _⟩ := hv; cases e; rfl
  have hn10 : n ≤ 10 := by have := hm.1; omega
  clear hv
  obtain ⟨z, rfl⟩ : ∃ y : Nat, z = (y : Int) := ⟨z.toNat, by omega⟩
  refine X.fn Tryz.func101 rfl (n := 38) rfl rfl ?_
  refine Zr ?_
  refine LL.box [.int .i64 k, .int .i64 l, .int .i64 ↑z, .slice x n c, .int .i64 r, .int .i64 p, strV t] rfl rfl rfl rfl rfl ?_
  intro W2 g3 eg3 r4 z5 b1
  replace q := Zu q b1; refine Za ?_; refine Zq ?_; refine Zc ?_; refine Zr ?_; refine Zf ?_; refine Zf ?_; refine Zl r4 ?_
  refine Zy (R.call rfl rfl rfl) (within_T _ _ _ _ (by first | assumption | omega)) ?_
  rintro e W' ⟨rfl, rfl⟩
  refine ⟨_, rfl, ?_⟩; refine Zt ?_; refine Zm ?_; refine Zf ?_; refine Zf ?_; refine Zl r4 ?_
  refine Zy (R.call rfl rfl rfl) (check_T _ m _ (hvF _ q) hlen hm) ?_
  rintro e W7 ⟨rfl, b6⟩
  refine ⟨_, rfl, ?_⟩; have zb6 := b6.size; replace r4 := r4.up b6; replace q := Zu q b6; refine ZneF ?_; refine Zp ?_; refine Zq ?_; refine ZN ?_; refine ZK ?_; refine ZT ?_; refine Zc ?_; refine Zr ?_; refine Zf ?_; refine Zf ?_; refine Zl r4 ?_; refine Zn ?_; refine Zm ?_; refine Zq ?_; refine CC.block ?_
  refine CC.loop (α := Nat) (fun i => [(1, .pointer (some ⟨g3, 0, none⟩)), (19, .slice x n c), (20, .int .i64 (n : Int)), (21, .int .i64 (i : Int))]) (fun i W => i ≤ n ∧ Below w.heap.size w W ∧ RowL W g3 145 (inL k l (z : Int) (.slice x n c) r p t) ∧ ∀ j, j < i → ∀ x, m[j]? = some x → x.1 + x.2.2 ≤ ((z : Int) + 511) / 512) (fun i => n - i) 0 ⟨rfl, rfl, rfl, rfl, trivial⟩ ⟨Nat.zero_le _, q, r4, fun j h => by omega⟩ ?_
  clear q r4 b1 b6
  rintro i W ⟨hi, q, r4, hall⟩
  have yw := q.size
  show CC none Tryz.prog _ 38 [] (sl [(1, .pointer (some ⟨g3, 0, none⟩)), (19, .slice x n c), (20, .int .i64 (n : Int)), (21, .int .i64 (i : Int))]) _ W
  by_cases hlt : i < n
  case neg =>
    have hbt : b = true := hb.2 fun y hy => by
      obtain ⟨j, hj⟩ := List.mem_iff_getElem?.1 hy
      exact hall j (by have := (List.getElem?_eq_some_iff.1 hj).1; omega) y hj
    subst hbt
    clear hall
    refine Zr ?_; refine ZltF ?_; refine Zq ?_; refine Zc ?_; refine ZN ?_; refine CC.exit ?_; refine EE.thenX ?_; refine EE.thenX ?_; refine EE.inX ?_; refine ZT ?_; refine Zr ?_; refine Za ?_; refine Zq ?_; refine ZR ?_; refine EE.ret _ rfl rfl ?_
    exact ⟨rfl, q⟩
  obtain ⟨⟨e1, e2, e3⟩, hget⟩ : ∃ x, m[i]? = some x := ⟨_, List.getElem?_eq_getElem (by omega)⟩
  have he : mayE (e1, e2, e3) := hm.2.1 _ (List.mem_of_getElem? hget)
  simp only [mayE] at he
  obtain ⟨e1, rfl⟩ : ∃ y : Nat, e1 = (y : Int) := ⟨e1.toNat, by omega⟩
  obtain ⟨e3, rfl⟩ : ∃ y : Nat, e3 = (y : Int) := ⟨e3.toNat, by omega⟩
  obtain ⟨bs, os, rfl, lbs, _⟩ := (hvF w (Below.refl _ _)).get eEnc hget
  have m1 : CellsN W ⟨bs, os + i * 3, none⟩ 3 [.int .i64 (e1 : Int), .int .i64 e2, .int .i64 (e3 : Int)] := (hvF W q).elemN eEnc hget
  have hu := r4.lt
  by_cases hf : (e1 : Int) + (e3 : Int) ≤ ((z : Int) + 511) / 512
  · have hall2 : ∀ j, j < i + 1 → ∀ x, m[j]? = some x → x.1 + x.2.2 ≤ ((z : Int) + 511) / 512 := fun j hj y hy => by
      by_cases hj2 : j < i
      · exact hall j hj2 y hy
      · obtain rfl : j = i := by omega
        rw [hget] at hy
        rw [← Option.some.inj hy]
        exact hf
    clear hall
    refine Zr ?_; refine ZltT ?_; refine Zq ?_; refine Zc ?_; refine ZY ?_; refine ZK ?_; refine ZT ?_; refine Zc ?_; refine CC.block ?_; refine Zr ?_
    refine LL.val (R.index rfl rfl rfl (I.ixS rfl (by omega))) rfl rfl rfl ?_
    refine LL.val (R.load rfl rfl (I.ldM (by assumption) rfl rfl)) rfl rfl rfl ?_
    have lb1 := r4.lt
    refine LL.alloc ([.int .i64 0, .int .i64 0, .int .i64 0]) rfl rfl rfl rfl rfl ?_
    intro Wb3 gb4 egb4 rb5 zb6 bb2
    replace q := Zu q bb2; replace r4 := r4.up bb2; replace m1 := m1.up bb2
    refine LL.storeN (vs := [.int .i64 ↑e1, .int .i64 e2, .int .i64 ↑e3]) rfl rfl rfl rfl rb5 (by exact Nat.le_of_ble_eq_true rfl) (ones_of rfl) rfl rfl ?_
    intro Wb8 rb9 bb7 zb10
    have hlbb7 := rb5.lt
    replace rb9 : RowL Wb8 _ 124 [Value.int IntKind.i64 ↑e1, Value.int IntKind.i64 e2, Value.int IntKind.i64 ↑e3] := rb9
    clear rb5
    replace q := q.grown bb7 q.size (by rintro k ⟨⟩; omega)
    replace r4 := r4.gr bb7 (by have := r4.lt; omega)
    replace m1 := m1.gr bb7 (by have := m1.lt; omega)
    have rb5 := rb9
    clear rb9
    refine Zq ?_; refine Zr ?_; refine Zf ?_; refine Zl rb5 ?_; refine Zf ?_; refine Zl rb5 ?_
    refine LL.val (R.addN rfl rfl rfl (by omega)) rfl rfl rfl ?_
    refine Zf ?_; refine Zf ?_; refine Zl r4 ?_
    refine LL.val (R.addNc rfl rfl rfl rfl (by omega)) rfl rfl rfl ?_
    refine LL.val (R.subNc rfl rfl rfl rfl (by omega) (by omega)) rfl rfl rfl ?_
    refine LL.val (R.quoNc rfl rfl rfl rfl (by omega) (by omega)) rfl rfl rfl ?_
    refine ZgtF ?_; refine Zq ?_; refine ZN ?_; refine ZK ?_; refine EE.inN ?_; refine ZT ?_; refine CC.region ?_
    refine LL.val (R.addNc rfl rfl rfl rfl (by omega)) rfl rfl rfl ?_
    refine Zm ?_; refine ZL ?_
    exact EE.round (i + 1) ⟨rfl, rfl, rfl, rfl, trivial⟩ ⟨by omega, q, r4, hall2⟩ (by omega)
  · have hbt : b = false := by
      cases b with
      | false => rfl
      | true => exact absurd (hb.1 rfl _ (List.mem_of_getElem? hget)) hf
    subst hbt
    clear hall
    refine Zr ?_; refine ZltT ?_; refine Zq ?_; refine Zc ?_; refine ZY ?_; refine ZK ?_; refine ZT ?_; refine Zc ?_; refine CC.block ?_; refine Zr ?_
    refine LL.val (R.index rfl rfl rfl (I.ixS rfl (by omega))) rfl rfl rfl ?_
    refine LL.val (R.load rfl rfl (I.ldM (by assumption) rfl rfl)) rfl rfl rfl ?_
    have lc1 := r4.lt
    refine LL.alloc ([.int .i64 0, .int .i64 0, .int .i64 0]) rfl rfl rfl rfl rfl ?_
    intro Wc3 gc4 egc4 rc5 zc6 bc2
    replace q := Zu q bc2; replace r4 := r4.up bc2; replace m1 := m1.up bc2
    refine LL.storeN (vs := [.int .i64 ↑e1, .int .i64 e2, .int .i64 ↑e3]) rfl rfl rfl rfl rc5 (by exact Nat.le_of_ble_eq_true rfl) (ones_of rfl) rfl rfl ?_
    intro Wc8 rc9 bc7 zc10
    have hlbc7 := rc5.lt
    replace rc9 : RowL Wc8 _ 124 [Value.int IntKind.i64 ↑e1, Value.int IntKind.i64 e2, Value.int IntKind.i64 ↑e3] := rc9
    clear rc5
    replace q := q.grown bc7 q.size (by rintro k ⟨⟩; omega)
    replace r4 := r4.gr bc7 (by have := r4.lt; omega)
    replace m1 := m1.gr bc7 (by have := m1.lt; omega)
    have rc5 := rc9
    clear rc9
    refine Zq ?_; refine Zr ?_; refine Zf ?_; refine Zl rc5 ?_; refine Zf ?_; refine Zl rc5 ?_
    refine LL.val (R.addN rfl rfl rfl (by omega)) rfl rfl rfl ?_
    refine Zf ?_; refine Zf ?_; refine Zl r4 ?_
    refine LL.val (R.addNc rfl rfl rfl rfl (by omega)) rfl rfl rfl ?_
    refine LL.val (R.subNc rfl rfl rfl rfl (by omega) (by omega)) rfl rfl rfl ?_
    refine LL.val (R.quoNc rfl rfl rfl rfl (by omega) (by omega)) rfl rfl rfl ?_
    refine ZgtT ?_; refine Zq ?_; refine ZY ?_; refine Zr ?_; refine Za ?_; refine Zq ?_; refine ZR ?_; refine EE.inR ?_; refine EE.thenR ?_; refine EE.thenR ?_; refine EE.inR ?_; refine EE.thenR ?_; refine EE.ret _ rfl rfl ?_
    exact ⟨rfl, q⟩
set_option linter.unusedVariables false
set_option linter.unusedSimpArgs false
set_option maxRecDepth 100000
set_option maxHeartbeats 8000000
theorem eqx_any (va vb : Value) (xs ys : List Ex) (w : World) (ha : ReadsT eE 3 w va xs) (hb : ReadsT eE 3 w vb ys) (hlx : xs.length ≤ 1048576) (hly : ys.length ≤ 1048576) :
    Calls Tryz.prog 149 #[va, vb] w fun e w' => e = .returned (.bool (decide (xs = ys))) ∧ Below w.heap.size w w' := by
  have q := Below.refl w.heap.size w
  obtain ⟨N, hN⟩ : ∃ N, xs.length = N := ⟨_, rfl⟩
  obtain ⟨N2, hN2⟩ : ∃ N, ys.length = N := ⟨_, rfl⟩
  obtain ⟨a, cap, rfl, hc⟩ := ha.form hN
  obtain ⟨a2, cap2, rfl, hc2⟩ := hb.form hN2
  rw [hN] at hlx
  rw [hN2] at hly
  have haF : ∀ W, Below w.heap.size w W → ReadsT eE 3 W (.slice a N cap) xs := fun W h => ha.up h
  have hbF : ∀ W, Below w.heap.size w W → ReadsT eE 3 W (.slice a2 N2 cap2) ys := fun W h => hb.up h
  clear ha hb
  by_cases hne : N = N2
  case neg =>
    rw [decide_eq_false (fun e => hne (by rw [← hN, ← hN2, e]))]
    refine X.fn Tryz.func149 rfl (n := 26) rfl rfl ?_
    refine Zr ?_; refine Za ?_; refine Zq ?_; refine Zc ?_; refine Zr ?_; refine Zm ?_; refine Zn ?_; refine Zm ?_; refine Zn ?_; refine ZneT ?_; refine Zq ?_; refine ZY ?_; refine Zr ?_; refine Za ?_; refine Zq ?_; refine ZR ?_; refine EE.thenR ?_; refine EE.ret _ rfl rfl ?_
    exact ⟨rfl, q⟩
  subst hne
  refine X.fn Tryz.func149 rfl (n := 26) rfl rfl ?_
  refine Zr ?_; refine Za ?_; refine Zq ?_; refine Zc ?_; refine Zr ?_; refine Zm ?_; refine Zn ?_; refine Zm ?_; refine Zn ?_; refine ZneF ?_; refine Zq ?_; refine ZN ?_; refine ZK ?_; refine ZT ?_; refine Zc ?_; refine Zr ?_; refine Zm ?_; refine Zn ?_; refine Zm ?_; refine Zq ?_; refine CC.block ?_
  refine CC.loop (α := Nat) (fun i => [(0, .slice a N cap), (1, .slice a2 N cap2), (12, .int .i64 (N : Int)), (13, .int .i64 (i : Int))]) (fun i W => i ≤ N ∧ Below w.heap.size w W ∧ xs.take i = ys.take i) (fun i => N - i) 0 ⟨rfl, rfl, rfl, rfl, trivial⟩ ⟨by omega, q, by simp⟩ ?_
  clear q
  rintro i W ⟨hi, q, ht⟩
  show CC none Tryz.prog _ 26 [] (sl [(0, .slice a N cap), (1, .slice a2 N cap2), (12, .int .i64 (N : Int)), (13, .int .i64 (i : Int))]) _ W
  have yq := q.size
  by_cases hlt : i < N
  case neg =>
    obtain rfl : i = N := by omega
    rw [List.take_of_length_le (by omega), List.take_of_length_le (by omega)] at ht
    rw [decide_eq_true ht]
    refine Zr ?_; refine ZltF ?_; refine Zq ?_; refine Zc ?_; refine ZN ?_; refine CC.exit ?_; refine EE.thenX ?_; refine EE.thenX ?_; refine EE.inX ?_; refine ZT ?_; refine Zr ?_; refine Za ?_; refine Zq ?_; refine ZR ?_; refine EE.ret _ rfl rfl ?_
    exact ⟨rfl, q⟩
  obtain ⟨x, hx⟩ : ∃ x, xs[i]? = some x := ⟨_, List.getElem?_eq_getElem (by omega)⟩
  obtain ⟨y, hy⟩ : ∃ y, ys[i]? = some y := ⟨_, List.getElem?_eq_getElem (by omega)⟩
  obtain ⟨bk, off, rfl, hbk, hcs⟩ := (haF W q).get eEnc hx
  obtain ⟨bk2, off2, rfl, hbk2, hcs2⟩ := (hbF W q).get eEnc hy
  have hcs : Cells W ⟨bk, off + i * 3, none⟩ [.int .i64 x.1, .int .i64 x.2.1, .int .i64 x.2.2] := hcs
  have hcs2 : Cells W ⟨bk2, off2 + i * 3, none⟩ [.int .i64 y.1, .int .i64 y.2.1, .int .i64 y.2.2] := hcs2
  by_cases he : x.1 = y.1 ∧ x.2.1 = y.2.1 ∧ x.2.2 = y.2.2
  · have hxy : x = y := Prod.ext he.1 (Prod.ext he.2.1 he.2.2)
    have ht' : xs.take (i + 1) = ys.take (i + 1) := by rw [List.take_add_one, List.take_add_one, ht, hx, hy, hxy]
    refine Zr ?_; refine ZltT ?_; refine Zq ?_; refine Zc ?_; refine ZY ?_; refine ZK ?_; refine ZT ?_; refine Zc ?_; refine CC.block ?_; refine Zr ?_; refine Zm ?_; refine Za ?_; refine Zq ?_; refine Zc ?_
    refine CC.quietB (by kernel_rfl) (by kernel_rfl) (fun Wc2 bc1 zc3 => ?_)
    replace q := Zu q bc1; replace hcs := hcs.up bc1; replace hcs2 := hcs2.up bc1
    refine SS.val (R.move rfl rfl) rfl rfl ?_
    refine SS.val (R.move rfl rfl) rfl rfl ?_
    refine SS.val (R.index rfl rfl rfl (I.ixS rfl (by omega))) rfl rfl ?_
    refine SS.val (R.load rfl rfl (I.ldNc (by assumption) rfl rfl)) rfl rfl ?_
    refine SS.val (R.move rfl rfl) rfl rfl ?_
    refine SS.val (R.move rfl rfl) rfl rfl ?_
    refine SS.val (R.index rfl rfl rfl (I.ixS rfl (by omega))) rfl rfl ?_
    refine SS.val (R.load rfl rfl (I.ldNc (by assumption) rfl rfl)) rfl rfl ?_
    refine SS.val (R.neST (p := (x.1 : Int) = y.1 ∧ (x.2.1 : Int) = y.2.1 ∧ (x.2.2 : Int) = y.2.2) (bs := [decide ((x.1 : Int) = y.1), decide ((x.2.1 : Int) = y.2.1), decide ((x.2.2 : Int) = y.2.2)]) rfl rfl rfl rfl (by kernel_rfl) (by kernel_rfl) (by simp) (by first | assumption | omega | exact ⟨rfl, rfl⟩ | exact fun h => h ⟨rfl, rfl⟩)) rfl rfl ?_
    refine SS.nilQ ?_
    refine ZT ?_; refine ZN ?_; refine ZK ?_; refine EE.inN ?_; refine ZT ?_; refine CC.region ?_
    refine LL.val (R.addNc rfl rfl rfl rfl (by omega)) rfl rfl rfl ?_
    refine Zm ?_; refine ZL ?_
    exact EE.round (i + 1) ⟨rfl, rfl, rfl, rfl, trivial⟩ ⟨by omega, q, ht'⟩ (by omega)
  · rw [decide_eq_false (fun e => he (by rw [e, hy] at hx; cases hx; exact ⟨rfl, rfl, rfl⟩))]
    refine Zr ?_; refine ZltT ?_; refine Zq ?_; refine Zc ?_; refine ZY ?_; refine ZK ?_; refine ZT ?_; refine Zc ?_; refine CC.block ?_; refine Zr ?_; refine Zm ?_; refine Za ?_; refine Zq ?_; refine Zc ?_
    refine CC.quietB (by kernel_rfl) (by kernel_rfl) (fun Wd2 bd1 zd3 => ?_)
    replace q := Zu q bd1; replace hcs := hcs.up bd1; replace hcs2 := hcs2.up bd1
    refine SS.val (R.move rfl rfl) rfl rfl ?_
    refine SS.val (R.move rfl rfl) rfl rfl ?_
    refine SS.val (R.index rfl rfl rfl (I.ixS rfl (by omega))) rfl rfl ?_
    refine SS.val (R.load rfl rfl (I.ldNc (by assumption) rfl rfl)) rfl rfl ?_
    refine SS.val (R.move rfl rfl) rfl rfl ?_
    refine SS.val (R.move rfl rfl) rfl rfl ?_
    refine SS.val (R.index rfl rfl rfl (I.ixS rfl (by omega))) rfl rfl ?_
    refine SS.val (R.load rfl rfl (I.ldNc (by assumption) rfl rfl)) rfl rfl ?_
    refine SS.val (R.neSF (p := (x.1 : Int) = y.1 ∧ (x.2.1 : Int) = y.2.1 ∧ (x.2.2 : Int) = y.2.2) (bs := [decide ((x.1 : Int) = y.1), decide ((x.2.1 : Int) = y.2.1), decide ((x.2.2 : Int) = y.2.2)]) rfl rfl rfl rfl (by kernel_rfl) (by kernel_rfl) (by simp) (by first | assumption | omega | exact ⟨rfl, rfl⟩ | exact fun h => h ⟨rfl, rfl⟩)) rfl rfl ?_
    refine SS.nilQ ?_
    refine ZT ?_; refine ZY ?_; refine Zr ?_; refine Za ?_; refine Zq ?_; refine ZR ?_; refine EE.inR ?_; refine EE.thenR ?_; refine EE.thenR ?_; refine EE.inR ?_; refine EE.thenR ?_; refine EE.ret _ rfl rfl ?_
    exact ⟨rfl, q⟩
/-- Are two inodes the same? -/
def sameI (k l z : Int) (m : List Ex) (r p : Int) (t : Bs) (k' l' z' : Int) (m' : List Ex) (r' p' : Int) (t' : Bs) : Prop := k = k' ∧ l = l' ∧ z = z' ∧ m = m' ∧ r = r' ∧ p = p' ∧ t = t'
theorem insame_any (k l z : Int) (a : Value) (m : List Ex) (r p : Int) (t : Bs) (k' l' z' : Int) (a' : Value) (m' : List Ex) (r' p' : Int) (t' : Bs) (w : World) (hv : ReadsT eE 3 w a m) (hu : ReadsT eE 3 w a' m') (hlen : m.length ≤ 1048576) (hlen' : m'.length ≤ 1048576) (b : Bool) (hb : b = true ↔ sameI k l z m r p t k' l' z' m' r' p' t') :
    Calls Tryz.prog 131 #[inV k l z a r p t, inV k' l' z' a' r' p' t'] w fun e w' => e = .returned (.bool b) ∧ Below w.heap.size w w' := by
  have q := Below.refl w.heap.size w
  obtain ⟨x, c, rfl, _⟩ := hv.form rfl
  obtain ⟨x', c', rfl, _⟩ := hu.form rfl
  have hvF : ∀ X, Below w.heap.size w X → ReadsT eE 3 X (.slice x m.length c) m := fun X b => hv.up b
  have huF : ∀ X, Below w.heap.size w X → ReadsT eE 3 X (.slice x' m'.length c') m' := fun X b => hu.up b
  clear hv hu
  by_cases hs : sameI k l z m r p t k' l' z' m' r' p' t'
  case neg =>
    have hbf : b = false := by
      cases b with
      | false => rfl
      | true => exact absurd (hb.1 rfl) hs
    subst hbf
    clear hb
    unfold sameI at hs
    by_cases h1 : k = k'
    case neg =>
      clear hs
      refine X.fn Tryz.func131 rfl (n := 52) rfl rfl ?_
      refine Zr ?_
      refine LL.box [.int .i64 k, .int .i64 l, .int .i64 z, .slice x m.length c, .int .i64 r, .int .i64 p, strV t] rfl rfl rfl rfl rfl ?_
      intro W2 g3 eg3 r4 z5 b1
      replace q := Zu q b1; have l6 := r4.lt
      refine LL.box [.int .i64 k', .int .i64 l', .int .i64 z', .slice x' m'.length c', .int .i64 r', .int .i64 p', strV t'] rfl rfl rfl rfl rfl ?_
      intro W8 g9 eg9 r10 z11 b7
      replace r4 := r4.up b7; replace q := Zu q b7; refine Za ?_; refine Zq ?_; refine Zr ?_; refine Zf ?_; refine Zl r4 ?_; refine Zf ?_; refine Zl r10 ?_; refine ZeqF ?_; refine Zm ?_; refine Zs ?_; refine Zs ?_; refine Zs ?_; refine Zs ?_; refine Zs ?_; refine Zp ?_; refine Zm ?_; refine Zs ?_; refine Zs ?_; refine Zs ?_; refine Zs ?_; refine Zs ?_; refine Zp ?_; refine Zm ?_; refine Zs ?_; refine Zs ?_
      refine Zs ?_; refine Zs ?_; refine Zs ?_; refine Zp ?_; refine Zm ?_; refine Zs ?_; refine Zs ?_; refine Zs ?_; refine Zs ?_; refine Zs ?_; refine Zp ?_; refine Zm ?_; refine Zs ?_; refine Zs ?_; refine Zs ?_; refine Zs ?_; refine Zs ?_; refine Zp ?_; refine Zm ?_; refine Zs ?_; refine Zs ?_; refine Zs ?_; refine Zs ?_; refine Zs ?_; refine Zp ?_; refine Za ?_; refine Zq ?_; refine ZR ?_; refine EE.ret _ rfl rfl ?_
      exact ⟨rfl, q⟩
    by_cases h2 : l = l'
    case neg =>
      clear hs
      refine X.fn Tryz.func131 rfl (n := 52) rfl rfl ?_
      refine Zr ?_
      refine LL.box [.int .i64 k, .int .i64 l, .int .i64 z, .slice x m.length c, .int .i64 r, .int .i64 p, strV t] rfl rfl rfl rfl rfl ?_
      intro Wa2 ga3 ega3 ra4 za5 ba1
      replace q := Zu q ba1; have la6 := ra4.lt
      refine LL.box [.int .i64 k', .int .i64 l', .int .i64 z', .slice x' m'.length c', .int .i64 r', .int .i64 p', strV t'] rfl rfl rfl rfl rfl ?_
      intro Wa8 ga9 ega9 ra10 za11 ba7
      replace ra4 := ra4.up ba7; replace q := Zu q ba7; refine Za ?_; refine Zq ?_; refine Zr ?_; refine Zf ?_; refine Zl ra4 ?_; refine Zf ?_; refine Zl ra10 ?_; refine ZeqT ?_; refine Zm ?_; refine Zf ?_; refine Zl ra4 ?_; refine Zf ?_; refine Zl ra10 ?_; refine ZeqF ?_; refine Zp ?_; refine Zm ?_; refine Zs ?_; refine Zs ?_; refine Zs ?_; refine Zs ?_; refine Zs ?_; refine Zp ?_; refine Zm ?_; refine Zs ?_
      refine Zs ?_; refine Zs ?_; refine Zs ?_; refine Zs ?_; refine Zp ?_; refine Zm ?_; refine Zs ?_; refine Zs ?_; refine Zs ?_; refine Zs ?_; refine Zs ?_; refine Zp ?_; refine Zm ?_; refine Zs ?_; refine Zs ?_; refine Zs ?_; refine Zs ?_; refine Zs ?_; refine Zp ?_; refine Zm ?_; refine Zs ?_; refine Zs ?_; refine Zs ?_; refine Zs ?_; refine Zs ?_; refine Zp ?_; refine Za ?_; refine Zq ?_; refine ZR ?_
      refine EE.ret _ rfl rfl ?_
      exact ⟨rfl, q⟩
    by_cases h3 : z = z'
    case neg =>
      clear hs
      refine X.fn Tryz.func131 rfl (n := 52) rfl rfl ?_
      refine Zr ?_
      refine LL.box [.int .i64 k, .int .i64 l, .int .i64 z, .slice x m.length c, .int .i64 r, .int .i64 p, strV t] rfl rfl rfl rfl rfl ?_
      intro Wb2 gb3 egb3 rb4 zb5 bb1
      replace q := Zu q bb1; have lb6 := rb4.lt
      refine LL.box [.int .i64 k', .int .i64 l', .int .i64 z', .slice x' m'.length c', .int .i64 r', .int .i64 p', strV t'] rfl rfl rfl rfl rfl ?_
      intro Wb8 gb9 egb9 rb10 zb11 bb7
      replace rb4 := rb4.up bb7; replace q := Zu q bb7; refine Za ?_; refine Zq ?_; refine Zr ?_; refine Zf ?_; refine Zl rb4 ?_; refine Zf ?_; refine Zl rb10 ?_; refine ZeqT ?_; refine Zm ?_; refine Zf ?_; refine Zl rb4 ?_; refine Zf ?_; refine Zl rb10 ?_; refine ZeqT ?_; refine Zp ?_; refine Zm ?_; refine Zf ?_; refine Zl rb4 ?_; refine Zf ?_; refine Zl rb10 ?_; refine ZeqF ?_; refine Zp ?_; refine Zm ?_
      refine Zs ?_; refine Zs ?_; refine Zs ?_; refine Zs ?_; refine Zs ?_; refine Zp ?_; refine Zm ?_; refine Zs ?_; refine Zs ?_; refine Zs ?_; refine Zs ?_; refine Zs ?_; refine Zp ?_; refine Zm ?_; refine Zs ?_; refine Zs ?_; refine Zs ?_; refine Zs ?_; refine Zs ?_; refine Zp ?_; refine Zm ?_; refine Zs ?_; refine Zs ?_; refine Zs ?_; refine Zs ?_; refine Zs ?_; refine Zp ?_; refine Za ?_; refine Zq ?_
      refine ZR ?_; refine EE.ret _ rfl rfl ?_
      exact ⟨rfl, q⟩
    by_cases h4 : m = m'
    case neg =>
      clear hs
      refine X.fn Tryz.func131 rfl (n := 52) rfl rfl ?_
      refine Zr ?_
      refine LL.box [.int .i64 k, .int .i64 l, .int .i64 z, .slice x m.length c, .int .i64 r, .int .i64 p, strV t] rfl rfl rfl rfl rfl ?_
      intro Wc2 gc3 egc3 rc4 zc5 bc1
      replace q := Zu q bc1; have lc6 := rc4.lt
      refine LL.box [.int .i64 k', .int .i64 l', .int .i64 z', .slice x' m'.length c', .int .i64 r', .int .i64 p', strV t'] rfl rfl rfl rfl rfl ?_
      intro Wc8 gc9 egc9 rc10 zc11 bc7
      replace rc4 := rc4.up bc7; replace q := Zu q bc7; refine Za ?_; refine Zq ?_; refine Zr ?_; refine Zf ?_; refine Zl rc4 ?_; refine Zf ?_; refine Zl rc10 ?_; refine ZeqT ?_; refine Zm ?_; refine Zf ?_; refine Zl rc4 ?_; refine Zf ?_; refine Zl rc10 ?_; refine ZeqT ?_; refine Zp ?_; refine Zm ?_; refine Zf ?_; refine Zl rc4 ?_; refine Zf ?_; refine Zl rc10 ?_; refine ZeqT ?_; refine Zp ?_; refine Zm ?_
      refine Zf ?_; refine Zl rc4 ?_; refine Zf ?_; refine Zl rc10 ?_
      refine LL.callBF (R.call rfl rfl rfl) rfl rfl rfl (eqx_any _ _ m m' _ (hvF _ q) (huF _ q) hlen hlen') (by first | assumption | omega) (fun Wc13 bc12 => ?_)
      have zbc12 := bc12.size; replace rc10 := rc10.up bc12; replace rc4 := rc4.up bc12; replace q := Zu q bc12; refine Zp ?_; refine Zm ?_; refine Zs ?_; refine Zs ?_; refine Zs ?_; refine Zs ?_; refine Zs ?_; refine Zp ?_; refine Zm ?_; refine Zs ?_; refine Zs ?_; refine Zs ?_; refine Zs ?_; refine Zs ?_; refine Zp ?_; refine Zm ?_; refine Zs ?_; refine Zs ?_; refine Zs ?_; refine Zs ?_; refine Zs ?_
      refine Zp ?_; refine Za ?_; refine Zq ?_; refine ZR ?_; refine EE.ret _ rfl rfl ?_
      exact ⟨rfl, q⟩
    by_cases h5 : r = r'
    case neg =>
      clear hs
      refine X.fn Tryz.func131 rfl (n := 52) rfl rfl ?_
      refine Zr ?_
      refine LL.box [.int .i64 k, .int .i64 l, .int .i64 z, .slice x m.length c, .int .i64 r, .int .i64 p, strV t] rfl rfl rfl rfl rfl ?_
      intro Wd2 gd3 egd3 rd4 zd5 bd1
      replace q := Zu q bd1; have ld6 := rd4.lt
      refine LL.box [.int .i64 k', .int .i64 l', .int .i64 z', .slice x' m'.length c', .int .i64 r', .int .i64 p', strV t'] rfl rfl rfl rfl rfl ?_
      intro Wd8 gd9 egd9 rd10 zd11 bd7
      replace rd4 := rd4.up bd7; replace q := Zu q bd7; refine Za ?_; refine Zq ?_; refine Zr ?_; refine Zf ?_; refine Zl rd4 ?_; refine Zf ?_; refine Zl rd10 ?_; refine ZeqT ?_; refine Zm ?_; refine Zf ?_; refine Zl rd4 ?_; refine Zf ?_; refine Zl rd10 ?_; refine ZeqT ?_; refine Zp ?_; refine Zm ?_; refine Zf ?_; refine Zl rd4 ?_; refine Zf ?_; refine Zl rd10 ?_; refine ZeqT ?_; refine Zp ?_; refine Zm ?_
      refine Zf ?_; refine Zl rd4 ?_; refine Zf ?_; refine Zl rd10 ?_
      refine LL.callBT (R.call rfl rfl rfl) rfl rfl rfl (eqx_any _ _ m m' _ (hvF _ q) (huF _ q) hlen hlen') (by first | assumption | omega) (fun Wd13 bd12 => ?_)
      have zbd12 := bd12.size; replace rd10 := rd10.up bd12; replace rd4 := rd4.up bd12; replace q := Zu q bd12; refine Zp ?_; refine Zm ?_; refine Zf ?_; refine Zl rd4 ?_; refine Zf ?_; refine Zl rd10 ?_; refine ZeqF ?_; refine Zp ?_; refine Zm ?_; refine Zs ?_; refine Zs ?_; refine Zs ?_; refine Zs ?_; refine Zs ?_; refine Zp ?_; refine Zm ?_; refine Zs ?_; refine Zs ?_; refine Zs ?_; refine Zs ?_
      refine Zs ?_; refine Zp ?_; refine Za ?_; refine Zq ?_; refine ZR ?_; refine EE.ret _ rfl rfl ?_
      exact ⟨rfl, q⟩
    by_cases h6 : p = p'
    case neg =>
      clear hs
      refine X.fn Tryz.func131 rfl (n := 52) rfl rfl ?_
      refine Zr ?_
      refine LL.box [.int .i64 k, .int .i64 l, .int .i64 z, .slice x m.length c, .int .i64 r, .int .i64 p, strV t] rfl rfl rfl rfl rfl ?_
      intro We2 ge3 ege3 re4 ze5 be1
      replace q := Zu q be1; have le6 := re4.lt
      refine LL.box [.int .i64 k', .int .i64 l', .int .i64 z', .slice x' m'.length c', .int .i64 r', .int .i64 p', strV t'] rfl rfl rfl rfl rfl ?_
      intro We8 ge9 ege9 re10 ze11 be7
      replace re4 := re4.up be7; replace q := Zu q be7; refine Za ?_; refine Zq ?_; refine Zr ?_; refine Zf ?_; refine Zl re4 ?_; refine Zf ?_; refine Zl re10 ?_; refine ZeqT ?_; refine Zm ?_; refine Zf ?_; refine Zl re4 ?_; refine Zf ?_; refine Zl re10 ?_; refine ZeqT ?_; refine Zp ?_; refine Zm ?_; refine Zf ?_; refine Zl re4 ?_; refine Zf ?_; refine Zl re10 ?_; refine ZeqT ?_; refine Zp ?_; refine Zm ?_
      refine Zf ?_; refine Zl re4 ?_; refine Zf ?_; refine Zl re10 ?_
      refine LL.callBT (R.call rfl rfl rfl) rfl rfl rfl (eqx_any _ _ m m' _ (hvF _ q) (huF _ q) hlen hlen') (by first | assumption | omega) (fun We13 be12 => ?_)
      have zbe12 := be12.size; replace re10 := re10.up be12; replace re4 := re4.up be12; replace q := Zu q be12; refine Zp ?_; refine Zm ?_; refine Zf ?_; refine Zl re4 ?_; refine Zf ?_; refine Zl re10 ?_; refine ZeqT ?_; refine Zp ?_; refine Zm ?_; refine Zf ?_; refine Zl re4 ?_; refine Zf ?_; refine Zl re10 ?_; refine ZeqF ?_; refine Zp ?_; refine Zm ?_; refine Zs ?_; refine Zs ?_; refine Zs ?_; refine Zs ?_
      refine Zs ?_; refine Zp ?_; refine Za ?_; refine Zq ?_; refine ZR ?_; refine EE.ret _ rfl rfl ?_
      exact ⟨rfl, q⟩
    by_cases h7 : t = t'
    case neg =>
      clear hs
      refine X.fn Tryz.func131 rfl (n := 52) rfl rfl ?_
      refine Zr ?_
      refine LL.box [.int .i64 k, .int .i64 l, .int .i64 z, .slice x m.length c, .int .i64 r, .int .i64 p, strV t] rfl rfl rfl rfl rfl ?_
      intro Wf2 gf3 egf3 rf4 zf5 bf1
      replace q := Zu q bf1; have lf6 := rf4.lt
      refine LL.box [.int .i64 k', .int .i64 l', .int .i64 z', .slice x' m'.length c', .int .i64 r', .int .i64 p', strV t'] rfl rfl rfl rfl rfl ?_
      intro Wf8 gf9 egf9 rf10 zf11 bf7
      replace rf4 := rf4.up bf7; replace q := Zu q bf7; refine Za ?_; refine Zq ?_; refine Zr ?_; refine Zf ?_; refine Zl rf4 ?_; refine Zf ?_; refine Zl rf10 ?_; refine ZeqT ?_; refine Zm ?_; refine Zf ?_; refine Zl rf4 ?_; refine Zf ?_; refine Zl rf10 ?_; refine ZeqT ?_; refine Zp ?_; refine Zm ?_; refine Zf ?_; refine Zl rf4 ?_; refine Zf ?_; refine Zl rf10 ?_; refine ZeqT ?_; refine Zp ?_; refine Zm ?_
      refine Zf ?_; refine Zl rf4 ?_; refine Zf ?_; refine Zl rf10 ?_
      refine LL.callBT (R.call rfl rfl rfl) rfl rfl rfl (eqx_any _ _ m m' _ (hvF _ q) (huF _ q) hlen hlen') (by first | assumption | omega) (fun Wf13 bf12 => ?_)
      have zbf12 := bf12.size; replace rf10 := rf10.up bf12; replace rf4 := rf4.up bf12; replace q := Zu q bf12; refine Zp ?_; refine Zm ?_; refine Zf ?_; refine Zl rf4 ?_; refine Zf ?_; refine Zl rf10 ?_; refine ZeqT ?_; refine Zp ?_; refine Zm ?_; refine Zf ?_; refine Zl rf4 ?_; refine Zf ?_; refine Zl rf10 ?_; refine ZeqT ?_; refine Zp ?_; refine Zm ?_; refine Zf ?_; refine Zl rf4 ?_; refine Zf ?_
      refine Zl rf10 ?_
      (refine LL.val (R.eqS (a := t) (b := t') (c := false) rfl rfl rfl (decide_eq_false h7)) rfl rfl rfl ?_)
      refine Zp ?_; refine Za ?_; refine Zq ?_; refine ZR ?_; refine EE.ret _ rfl rfl ?_
      exact ⟨rfl, q⟩
    exact absurd ⟨h1, h2, h3, h4, h5, h6, h7⟩ hs
  have hbt : b = true := hb.2 hs
  subst hbt
  clear hb
  obtain ⟨h1, h2, h3, h4, h5, h6, h7⟩ := hs
  refine X.fn Tryz.func131 rfl (n := 52) rfl rfl ?_
  refine Zr ?_
  refine LL.box [.int .i64 k, .int .i64 l, .int .i64 z, .slice x m.length c, .int .i64 r, .int .i64 p, strV t] rfl rfl rfl rfl rfl ?_
  intro Wg2 gg3 egg3 rg4 zg5 bg1
  replace q := Zu q bg1; have lg6 := rg4.lt
  refine LL.box [.int .i64 k', .int .i64 l', .int .i64 z', .slice x' m'.length c', .int .i64 r', .int .i64 p', strV t'] rfl rfl rfl rfl rfl ?_
  intro Wg8 gg9 egg9 rg10 zg11 bg7
  replace rg4 := rg4.up bg7; replace q := Zu q bg7; refine Za ?_; refine Zq ?_; refine Zr ?_; refine Zf ?_; refine Zl rg4 ?_; refine Zf ?_; refine Zl rg10 ?_; refine ZeqT ?_; refine Zm ?_; refine Zf ?_; refine Zl rg4 ?_; refine Zf ?_; refine Zl rg10 ?_; refine ZeqT ?_; refine Zp ?_; refine Zm ?_; refine Zf ?_; refine Zl rg4 ?_; refine Zf ?_; refine Zl rg10 ?_; refine ZeqT ?_; refine Zp ?_; refine Zm ?_
  refine Zf ?_; refine Zl rg4 ?_; refine Zf ?_; refine Zl rg10 ?_
  refine LL.callBT (R.call rfl rfl rfl) rfl rfl rfl (eqx_any _ _ m m' _ (hvF _ q) (huF _ q) hlen hlen') (by first | assumption | omega) (fun Wg13 bg12 => ?_)
  have zbg12 := bg12.size; replace rg10 := rg10.up bg12; replace rg4 := rg4.up bg12; replace q := Zu q bg12; refine Zp ?_; refine Zm ?_; refine Zf ?_; refine Zl rg4 ?_; refine Zf ?_; refine Zl rg10 ?_; refine ZeqT ?_; refine Zp ?_; refine Zm ?_; refine Zf ?_; refine Zl rg4 ?_; refine Zf ?_; refine Zl rg10 ?_; refine ZeqT ?_; refine Zp ?_; refine Zm ?_; refine Zf ?_; refine Zl rg4 ?_; refine Zf ?_; refine Zl rg10 ?_
  (refine LL.val (R.eqS (a := t) (b := t') (c := true) rfl rfl rfl (decide_eq_true h7)) rfl rfl rfl ?_)
  refine Zp ?_; refine Za ?_; refine Zq ?_; refine ZR ?_; refine EE.ret _ rfl rfl ?_
  exact ⟨rfl, q⟩
open Go.RowKit
/-- The number that bytes make, the lowest first. -/
def valL : List Nat → Nat
  | [] => 0
  | b :: r => b + 256 * valL r
theorem valL_lt (l : List Nat) (h : ∀ x ∈ l, x < 256) : valL l < 256 ^ l.length := by
  induction l with
  | nil => simp [valL]
  | cons b r ih =>
    have h1 := h b (by simp)
    have h2 := ih (fun x hx => h x (by simp [hx]))
    simp only [valL, List.length_cons, Nat.pow_succ]
    omega
/-- The word number j of bytes that are laid. -/
def wordAt (bs : List Nat) (j : Nat) : Nat := valL ((bs.drop (8 * j)).take 8)
/-- So many words of bytes that are laid. -/
def layN (bs : List Nat) (n : Nat) : List Nat := (List.range n).map (wordAt bs)
def layL (bs : List Nat) : List Nat := layN bs ((bs.length + 7) / 8)
theorem layN_length (bs : List Nat) (n : Nat) : (layN bs n).length = n := by simp [layN]
theorem Reads.from {w : World} {b off len cap : Nat} {xs : List Value} (h : Reads w (.slice (some ⟨b, off, none⟩) len cap) xs) (j : Nat) (hj : j ≤ len) : Reads w (.slice (some ⟨b, off + j, none⟩) (len - j) (cap - j)) (xs.drop j) := by
  obtain ⟨a', cap', e, hc, h⟩ := h
  cases e
  refine ⟨some ⟨b, off + j, none⟩, cap - j, by simp, by simp; omega, fun hne => ?_⟩
  obtain ⟨b', off', ha, hlt, hcell⟩ := h (by intro e; simp [e] at hne)
  cases ha
  refine ⟨b, off + j, rfl, hlt, fun i hi => ?_⟩
  simp only [List.length_drop] at hi
  rw [Nat.add_assoc, hcell (j + i) (by omega)]
  simp
theorem wordsFor_any (n N : Nat) (h : n ≤ 9223372036854775807) (hN : Hid ((n + 7) / 8 = N)) (w : World) : Calls Tryz.prog 128 #[.int .i64 n] w fun e w' => e = .returned (.int .i64 N) ∧ w = w' := by
  have HN := hN.out
  clear hN
  subst HN
  by_cases h8 : n % 8 = 0
  · have hb : (((n : Nat) : Int) % 8 == 0) = true := by simp; omega
    go_enter Tryz.func128, Tryz.ntmps128
    go_wp2
    go_ret
    exact ⟨ret1 (int_eq (by omega)), rfl⟩
  · have hb : (((n : Nat) : Int) % 8 == 0) = false := by simp; omega
    go_enter Tryz.func128, Tryz.ntmps128
    go_wp2
    go_ret
    exact ⟨ret1 (int_eq (by omega)), rfl⟩
theorem or_shift (q c s : Nat) (hq : q < 256 ^ s) (hc : c < 256) (hs : s < 8) : bits .or .u64 (q : Int) (IntKind.u64.wrap ((c : Int) * 2 ^ (8 * s))) = ((q + c * 256 ^ s : Nat) : Int) := by
  have e8 : (256 : Nat) ^ s = 2 ^ (8 * s) := by rw [show (256 : Nat) = 2 ^ 8 by rfl, ← Nat.pow_mul]
  have hcs : c * 256 ^ s + 256 ^ s ≤ 256 ^ 8 := by
    have h1 : (c + 1) * 256 ^ s ≤ 256 * 256 ^ s := Nat.mul_le_mul_right _ (by omega)
    have h2 : 256 ^ (s + 1) ≤ 256 ^ 8 := Nat.pow_le_pow_right (by decide) (by omega)
    rw [Nat.pow_succ] at h2
    rw [Nat.add_mul, Nat.one_mul] at h1
    omega
  have ew : IntKind.u64.wrap ((c : Int) * 2 ^ (8 * s)) = ((c * 256 ^ s : Nat) : Int) := by
    rw [IntKind.wrap_u64, e8]
    have : ((c : Int) * 2 ^ (8 * s)) = ((c * 2 ^ (8 * s) : Nat) : Int) := by simp
    rw [this, ← e8]
    omega
  rw [ew, u64_or_nat q (c * 256 ^ s) (by omega) (by omega), Nat.or_comm, nat_join (8 * s) _ _ (by rw [e8]; exact Nat.mul_mod_left _ _) (by rw [← e8]; exact hq)]
  congr 1
  omega
set_option maxHeartbeats 400000 in
theorem lay1_any (i N O Bx g b off len cap q c : Nat) (w : World) (hi : i ≤ 1048576) (hO : Boxed w O 33 (.slice (some ⟨g, 0, none⟩) N N)) (hB : Boxed w Bx 109 (.slice (some ⟨b, off, none⟩) len cap))
    (hil : i < len) (hiN : i / 8 < N) (hcell : w.cell? ⟨b, off + i, none⟩ = some (.int .u8 c)) (hg : w.cell? ⟨g, i / 8, none⟩ = some (.int .u64 q)) (hf : w.frozen? ⟨g, i / 8, none⟩ = false) (hq : q < 256 ^ (i % 8)) (hc : c < 256) :
    Calls Tryz.prog 129 #[.int .i64 i, .pointer (some ⟨O, 0, none⟩), .pointer (some ⟨Bx, 0, none⟩)] w fun e w' => e = .returned (.tuple #[]) ∧ w' = (w.setCell ⟨g, i / 8, none⟩ (.int .u64 (q + c * 256 ^ (i % 8) : Nat))).drew := by
  have E := Lib.hid (or_shift q c (i % 8) hq hc (Nat.mod_lt _ (by decide)))
  have o1 := hO.cell
  have b1 := hB.cell
  have i1 : (i : Int) < (len : Int) := by omega
  have i2 : ((i : Int) / 8) < (N : Int) := by omega
  have i3 : (0 : Int) ≤ (i : Int) / 8 := by omega
  have i4 : ((i : Int) / 8).toNat = i / 8 := by omega
  have hwr : IntKind.i64.wrap (8 * ((i : Int) % 8)) = 8 * ((i : Int) % 8) := IntWalk.i64_in _ (by omega)
  have hw0 : (0 : Int) ≤ 8 * ((i : Int) % 8) := by omega
  have hw1 : (8 * ((i : Int) % 8)).toNat = 8 * (i % 8) := by omega
  clear hq
  go_enter Tryz.func129, Tryz.ntmps129
  go_wp2
  go_region
  go_end0
  refine ⟨rfl, ?_⟩
  rw [← E.out]
theorem wordAt_take (bs : List Nat) (k j : Nat) : wordAt (bs.take k) j = valL ((bs.drop (8 * j)).take (min (k - 8 * j) 8)) := by
  unfold wordAt
  rw [List.drop_take, List.take_take, Nat.min_comm]
theorem valL_append (l r : List Nat) : valL (l ++ r) = valL l + 256 ^ l.length * valL r := by
  induction l with
  | nil => simp [valL]
  | cons b l ih => simp only [List.cons_append, valL, ih, List.length_cons, Nat.pow_succ, Nat.mul_add]; rw [Nat.mul_comm (256 ^ l.length) 256, Nat.mul_assoc]; omega
theorem wordAt_other (bs : List Nat) (k j : Nat) (h : j ≠ k / 8) : wordAt (bs.take (k + 1)) j = wordAt (bs.take k) j := by
  rw [wordAt_take, wordAt_take]
  congr 2
  omega
theorem wordAt_step (bs : List Nat) (k : Nat) (h : k < bs.length) : wordAt (bs.take (k + 1)) (k / 8) = wordAt (bs.take k) (k / 8) + bs[k]?.getD 0 * 256 ^ (k % 8) := by
  rw [wordAt_take, wordAt_take]
  rw [show min (k + 1 - 8 * (k / 8)) 8 = k % 8 + 1 by omega, show min (k - 8 * (k / 8)) 8 = k % 8 by omega]
  rw [take_snoc _ 0 _ (by simp; omega), valL_append]
  have hl : ((bs.drop (8 * (k / 8))).take (k % 8)).length = k % 8 := by simp; omega
  rw [hl]
  simp only [valL, List.getElem?_drop]
  rw [show 8 * (k / 8) + k % 8 = k by omega]
  simp [Nat.mul_comm]
theorem wordAt_small (bs : List Nat) (k : Nat) (h : ∀ x ∈ bs, x < 256) : wordAt (bs.take k) (k / 8) < 256 ^ (k % 8) := by
  rw [wordAt_take]
  refine Nat.lt_of_lt_of_le (valL_lt _ fun x hx => h x (List.mem_of_mem_drop (List.mem_of_mem_take hx))) (Nat.pow_le_pow_right (by decide) ?_)
  simp; omega
theorem layN_set (bs : List Nat) (k N : Nat) (h : k < bs.length) (hk : k / 8 < N) : (layN (bs.take k) N).set (k / 8) (wordAt (bs.take k) (k / 8) + bs[k]?.getD 0 * 256 ^ (k % 8)) = layN (bs.take (k + 1)) N := by
  apply List.ext_getElem
  · simp [layN_length]
  · intro j h1 h2
    simp only [List.getElem_set]
    by_cases e : k / 8 = j
    · subst e; simp [layN, ← wordAt_step bs k h]
    · simp [e, layN, wordAt_other bs k j (fun h => e h.symm)]
set_option maxHeartbeats 400000 in
theorem lay_any (v : Value) (bs : List Nat) (N : Nat) (w : World) (hv : Reads w v (ints .u8 bs)) (hb : ∀ x ∈ bs, x < 256) (hlen : bs.length ≤ 1048576) (hN : (bs.length + 7) / 8 = N) :
    Calls Tryz.prog 114 #[v] w fun e w' => ∃ g, e = .returned (.slice (some ⟨g, 0, none⟩) N N) ∧ w.heap.size ≤ g ∧ RowL w' g 25 (ints .u64 (layL bs)) ∧ Below w.heap.size w w' := by
  obtain ⟨a, cap, rfl, hcap, hcells⟩ := hv.ints
  have hN1 : 8 * N < bs.length + 8 := by omega
  have hN2 : bs.length ≤ 8 * N := by omega
  have hmk := run_mk El64 N N (by omega) (by omega) (by omega) (N : Int) (N : Int) rfl rfl
  unfold layL
  have HN := Lib.hid hN
  rw [hN]
  clear hN
  go_enter Tryz.func114, Tryz.ntmps114
  go_wp2_with (first | (go_at_call 128; refine (wordsFor_any _ N (by omega) HN _).mono ?_; rintro e w1 ⟨rfl, rfl⟩))
  go_loopw [13] (fun i wr => ∃ k : Nat, k ≤ bs.length ∧ i = .int .i64 k ∧ Boxed wr w.heap.size 109 (.slice a bs.length cap) ∧ Boxed wr (w.heap.size + 1 + 1) 33 (.slice (some ⟨w.heap.size + 1, 0, none⟩) N N) ∧ RowL wr (w.heap.size + 1) 25 (ints .u64 (layN (bs.take k) N)) ∧ Below w.heap.size w wr) (fun i _ => bs.length - (intOf i).toNat)
  case atStart =>
    refine ⟨0, by omega, rfl, ((Boxed.new w _ _).alloc _).alloc _, ?_, ?_, (((Below.refl _ w).alloc (Nat.le_refl _) _).alloc (by simp) _).alloc (by simp; omega) _⟩
    · have h := Boxed.new ((w.alloc (.cells #[.slice a bs.length cap] 109)).alloc (.cells (madeCells #[.int .u64 0] N) 25)) 33 (.slice (some ⟨w.heap.size + 1, 0, none⟩) N N)
      simpa using h
    · have h := (RowL.made (w.alloc (.cells #[.slice a bs.length cap] 109)) 25 (.int .u64 0) N).alloc (.cells #[.slice (some ⟨w.heap.size + 1, 0, none⟩) N N] 33)
      have e : ints .u64 (layN (bs.take 0) N) = List.replicate N (.int .u64 0) := by
        apply List.ext_getElem
        · simp [layN_length]
        · intro j h1 h2; simp [layN, wordAt, valL]
      rw [e]
      simpa using h
  case round =>
    obtain ⟨k, hk, rfl, hbb, hbo, hrow, hbl⟩ := hrel
    by_cases hlt : k < bs.length
    · obtain ⟨b, off, rfl, hbs, hc⟩ := hcells (by omega)
      have hck : wr.cell? ⟨b, off + k, none⟩ = some (.int .u8 ((bs[k]?.getD 0 : Nat) : Int)) := (hbl.cell (p := ⟨b, off + k, none⟩) hbs).trans (hc k hlt)
      have hb8 : bs[k]?.getD 0 < 256 := by simp [hlt]; exact hb _ (List.getElem_mem hlt)
      have hk8 : k / 8 < N := by omega
      have hgk : wr.cell? ⟨w.heap.size + 1, k / 8, none⟩ = some (.int .u64 ((wordAt (bs.take k) (k / 8) : Nat) : Int)) := hrow.cell (by simp [layN, hk8])
      have hgf := hrow.frozen (k / 8)
      have hq := wordAt_small bs k hb
      have hst0 := layN_set bs k N hlt hk8
      obtain ⟨c, hce⟩ : ∃ c, bs[k]?.getD 0 = c := ⟨_, rfl⟩
      obtain ⟨q, hqe⟩ : ∃ q, wordAt (bs.take k) (k / 8) = q := ⟨_, rfl⟩
      rw [hce] at hck hb8 hst0
      rw [hqe] at hgk hq hst0
      have hst := Lib.hid hst0
      clear hst0 hce hqe
      have hl1 := Lib.hid (lay1_any k N (w.heap.size + 1 + 1) w.heap.size (w.heap.size + 1) b off bs.length cap _ _ wr (by omega) hbo hbb hlt hk8 hck hgk hgf hq hb8)
      clear hc hcells hck hgk hgf hq hb8 hb hv
      go_wp2_with (first | (go_at_call 129; refine hl1.out.mono ?_; rintro e w1 ⟨rfl, rfl⟩))
      go_roundw
      case rel =>
        refine ⟨k + 1, by omega, by go_num, box_other hbb (by simp) _, box_other hbo (by simp) _, ?_, (hbl.setCell (p := ⟨w.heap.size + 1, k / 8, none⟩) (by simp) _).drew⟩
        rw [← hst.out]
        have h := (hrow.set (k / 8) (.int .u64 (q + c * 256 ^ (k % 8) : Nat))).drew
        have e : ints .u64 ((layN (bs.take k) N).set (k / 8) (q + c * 256 ^ (k % 8))) = (ints .u64 (layN (bs.take k) N)).set (k / 8) (.int .u64 (q + c * 256 ^ (k % 8) : Nat)) := by simp [List.map_set]
        rw [e]
        first | exact h | (simp at h ⊢; exact h)
      case measure => simp [intOf]; omega
    · obtain rfl : k = bs.length := by omega
      have hbo' := hbo.cell
      go_wp2
      go_ret
      exact ⟨_, rfl, by omega, by simpa using hrow, hbl⟩
/-- Are all of these 0? -/
def zerosB (l : List Nat) : Bool := l.all (· == 0)
theorem all_snoc (l : List Nat) (k : Nat) (h : k < l.length) : zerosB (l.take (k + 1)) = (zerosB (l.take k) && (l[k]?.getD 0 == 0)) := by
  rw [take_snoc l 0 k h]; simp [zerosB]
theorem zerosB_take {l : List Nat} {k : Nat} (h : zerosB (l.take k) = false) : zerosB l = false := by
  unfold zerosB at *
  rw [List.all_eq_false] at h ⊢
  obtain ⟨x, hx, hx0⟩ := h
  exact ⟨x, List.mem_of_mem_take hx, hx0⟩
set_option maxHeartbeats 800000 in
theorem take_any (v : Value) (ws : List Nat) (m : Nat) (w : World) (hv : Reads w v (ints .u64 ws)) (hlen : ws.length ≤ 1048576) (hm : (m + 7) / 8 = ws.length) :
    Calls Tryz.prog 130 #[v, .int .i64 m] w fun e w' => ∃ v' no, e = .returned (.tuple #[v', .int .i64 no]) ∧ Below w.heap.size w w' ∧
      ((zerosB ((bytesL ws).drop m) = true ∧ no = 0 ∧ Reads w' v' (ints .u8 ((bytesL ws).take m))) ∨ (zerosB ((bytesL ws).drop m) = false ∧ no = 2 ∧ v' = .slice none 0 0)) := by
  have hby := Lib.hid (bytes_any v ws w hv hlen)
  obtain ⟨a, cap, rfl, hcap, hcells⟩ := hv.ints
  have hbe : (((ws.length : Nat) : Int) != ((ws.length : Nat) : Int)) = false := by simp
  have HN := Lib.hid hm
  obtain ⟨L, hL⟩ : ∃ L, 8 * ws.length = L := ⟨_, rfl⟩
  have hm1 : m ≤ L := by omega
  have hL2 : L ≤ 8388608 := by omega
  have HL := Lib.hid hL
  have hlb := bytesL_length ws
  rw [hL] at hlb
  clear hcells hv hm hL
  obtain ⟨bs, hbs⟩ : ∃ bs, bytesL ws = bs := ⟨_, rfl⟩
  rw [hbs] at hby hlb ⊢
  clear hbs
  go_enter Tryz.func130, Tryz.ntmps130
  go_wp2_with (first | (go_at_call 128; refine (wordsFor_any m _ (by omega) HN _).mono ?_; rintro e w1 ⟨rfl, rfl⟩) | (go_at_call 84; refine hby.out.mono ?_; rintro e w1 ⟨v', rfl, hown, hbl⟩; have hrd := reads_of_owns hown; obtain ⟨a', cap', rfl, hcap', _⟩ := hrd.intsN hlb; obtain ⟨A, hA1, hA2⟩ := run_from El8 a' L cap' m hm1 hcap'; have hA3 := Lib.hid (hA2 w1 _ hrd); have hU := run_upto3 El8 a' L cap' m (by omega); clear hA2 hown; have HRD := Lib.hid hrd; clear hrd))
  have hz : Reads w1 (.slice A (L - m) (cap' - m)) (ints .u8 (bs.drop m)) := by have h := hA3.out; rw [← List.map_drop] at h; exact h
  have hlz : (bs.drop m).length = L - m := by simp [hlb]
  obtain ⟨zs, hzs⟩ : ∃ zs, bs.drop m = zs := ⟨_, rfl⟩
  rw [hzs] at hz hlz
  have HZ := Lib.hid hzs
  obtain ⟨A2, c2, he, hc2, hcz⟩ := hz.intsN hlz
  simp only [Value.slice.injEq] at he
  obtain ⟨rfl, _, rfl⟩ := he
  clear hz hA3 hA1 hzs
  obtain ⟨D, hD⟩ : ∃ D, L - m = D := ⟨_, rfl⟩
  rw [hD] at hlz hcz ⊢
  have hD2 : D ≤ 8388608 := by omega
  clear hD hby
  go_loop [24] (fun i => ∃ k : Nat, k ≤ D ∧ i = .int .i64 k ∧ zerosB (zs.take k) = true) (fun i => D - (intOf i).toNat)
  case atStart => exact ⟨0, by omega, rfl, rfl⟩
  case round =>
    obtain ⟨k, hk, rfl, hall⟩ := hrel
    have HA := Lib.hid hall
    clear hall
    by_cases hlt : k < D
    · obtain ⟨b, off, rfl, hbs, hc⟩ := hcz (by omega)
      have hck := hc k hlt
      have hsn := Lib.hid (all_snoc zs k (by omega))
      have hkz := Lib.hid (show k < zs.length by omega)
      obtain ⟨c, hce⟩ : ∃ c, zs[k]?.getD 0 = c := ⟨_, rfl⟩
      rw [hce] at hck hsn
      clear hc hcz hce hlz
      by_cases h0 : c = 0
      · subst h0
        go_wp2
        go_round
        case rel => exact ⟨k + 1, by omega, by go_num, by rw [hsn.out, HA.out]; rfl⟩
        case measure => simp [intOf]; omega
      · have hne : ((c : Int) != 0) = true := by simp; exact h0
        go_wp2
        go_ret2
        refine ⟨_, _, rfl, hbl, .inr ⟨?_, rfl, rfl⟩⟩
        rw [HZ.out]
        have hs := hsn.out
        rw [HA.out] at hs
        exact zerosB_take (by rw [hs]; simp [h0])
    · obtain rfl : k = D := by omega
      clear hcz
      go_wp2
      go_ret2
      refine ⟨_, _, rfl, hbl, .inl ⟨?_, rfl, ?_⟩⟩
      · rw [HZ.out]
        have h := HA.out
        rw [List.take_of_length_le (by omega)] at h
        exact h
      · have h := HRD.out.take m hm1 m (Nat.le_refl _)
        first | exact h | (rw [← List.map_take] at h; exact h)
theorem byteL_get (x n i : Nat) (h : i < n) : (byteL x n)[i]? = some (x / 256 ^ i % 256) := by simp [byteL, h]
theorem bytesL_get (ws : List Nat) : ∀ i, i < 8 * ws.length → (bytesL ws)[i]? = some (ws[i / 8]?.getD 0 / 256 ^ (i % 8) % 256) := by
  induction ws with
  | nil => intro i h; simp at h
  | cons x l ih =>
    intro i h
    have e : bytesL (x :: l) = byteL x 8 ++ bytesL l := by simp [bytesL]
    rw [e]
    by_cases h8 : i < 8
    · rw [List.getElem?_append_left (by rw [byteL_length]; exact h8), byteL_get x 8 i h8, show i / 8 = 0 by omega, show i % 8 = i by omega]
      rfl
    · rw [List.getElem?_append_right (by rw [byteL_length]; omega), byteL_length, ih (i - 8) (by simp at h; omega), show (i - 8) % 8 = i % 8 by omega, show i / 8 = (i - 8) / 8 + 1 by omega]
      simp
theorem valL_get (l : List Nat) (h : ∀ x ∈ l, x < 256) : ∀ k, valL l / 256 ^ k % 256 = l[k]?.getD 0 := by
  induction l with
  | nil => intro k; simp [valL]
  | cons b r ih =>
    intro k
    have hb := h b (by simp)
    have ih' := ih (fun x hx => h x (by simp [hx]))
    cases k with
    | zero => simp [valL]; omega
    | succ k =>
      have e : valL (b :: r) / 256 ^ (k + 1) = valL r / 256 ^ k := by
        rw [Nat.pow_succ, Nat.mul_comm, ← Nat.div_div_eq_div_mul]
        congr 1
        simp only [valL]
        omega
      rw [e, ih' k]
      simp
theorem bytes_lay (bs : List Nat) (h : ∀ x ∈ bs, x < 256) (n i : Nat) (hi : i < 8 * n) : (bytesL (layN bs n))[i]? = some (bs[i]?.getD 0) := by
  rw [bytesL_get _ i (by rw [layN_length]; exact hi)]
  congr 1
  have hj : i / 8 < n := by omega
  have e : (layN bs n)[i / 8]?.getD 0 = wordAt bs (i / 8) := by simp [layN, hj]
  rw [e]
  unfold wordAt
  rw [valL_get _ (fun x hx => h x (List.mem_of_mem_drop (List.mem_of_mem_take hx)))]
  rw [List.getElem?_take, if_pos (by omega), List.getElem?_drop, show 8 * (i / 8) + i % 8 = i by omega]
theorem layL_length (bs : List Nat) : (layL bs).length = (bs.length + 7) / 8 := layN_length _ _
theorem lay_take (bs : List Nat) (h : ∀ x ∈ bs, x < 256) : (bytesL (layL bs)).take bs.length = bs := by
  apply List.ext_getElem?
  intro i
  rw [List.getElem?_take]
  by_cases hi : i < bs.length
  · rw [if_pos hi]
    unfold layL
    rw [bytes_lay bs h _ i (by omega)]
    simp [hi]
  · rw [if_neg hi, List.getElem?_eq_none (by omega)]
theorem lay_drop (bs : List Nat) (h : ∀ x ∈ bs, x < 256) : zerosB ((bytesL (layL bs)).drop bs.length) = true := by
  unfold zerosB
  rw [List.all_eq_true]
  intro x hx
  obtain ⟨i, hi, rfl⟩ := List.mem_iff_getElem.1 hx
  simp only [List.length_drop, bytesL_length, layL_length] at hi
  have e := bytes_lay bs h ((bs.length + 7) / 8) (bs.length + i) (by omega)
  rw [List.getElem?_eq_none (l := bs) (by omega)] at e
  have e2 : ((bytesL (layL bs)).drop bs.length)[i]? = some 0 := by rw [List.getElem?_drop]; exact e
  rw [List.getElem?_eq_getElem (by simp [bytesL_length, layL_length]; omega)] at e2
  simpa using e2
theorem lay_small (bs : List Nat) (h : ∀ x ∈ bs, x < 256) : ∀ x ∈ layL bs, x < 18446744073709551616 := by
  intro x hx
  simp only [layL, layN, List.mem_map] at hx
  obtain ⟨j, _, rfl⟩ := hx
  unfold wordAt
  refine Nat.lt_of_lt_of_le (valL_lt _ fun x hx => h x (List.mem_of_mem_drop (List.mem_of_mem_take hx))) ?_
  have : ((bs.drop (8 * j)).take 8).length ≤ 8 := by simp; omega
  exact Nat.le_trans (Nat.pow_le_pow_right (by decide) this) (by decide)
set_option linter.unusedVariables false
set_option linter.unusedSimpArgs false
section
variable {P : Program} {w : World} {T TI e : TypeId} {z : Value} {bytes : Nat} {kn : IntKind}
theorem RowL.asInts {g n : Nat} {xs : List Value} (h : RowL w g e xs) (k : IntKind) (ws : List Nat) (hx : xs = ints k ws) (hn : ws.length = n) : Reads w (.slice (some ⟨g, 0, none⟩) n n) (ints k ws) := by
  subst hx
  have := h.reads ws.length (by simp)
  rw [List.length_map, hn] at this
  exact this
variable {o : Oper} {n : Nat} {D : List Deferred} {M : Slots} {r : Option Nat} {ops : Array Oper} {Q : Exit → Act → World → Prop} {rest : List Oper}
end
set_option linter.unusedVariables false
set_option linter.unusedSimpArgs false
section
variable {P : Program} {ops : Array Oper} {ok : World → Prop} {n i : Nat} {D : List Deferred} {M : Slots} {w : World} {o : Oper} {K : Slots → World → Prop}
theorem SR.copy {xs : Array Operand} {dT sT e g off dl dc sl sc t : Nat} {p : Addr} {row cs : List Value} (hi : ops[i]? = some o) (ho : o.op = .call { callee := .builtin .copy, args := xs, argTypes := #[dT, sT] }) (hx : evsM M xs.toList = some [.slice (some ⟨g, off, none⟩) dl dc, .slice (some p) sl sc])
    (hz : slB P dT = some (e, 1)) (hr : RowL w g t row) (hcs : Cells w p cs) (hn : cs.length = Nat.min sl dl) (hfit : off + cs.length ≤ row.length) (h1 : ∀ v ∈ cs, v.oneCell' = true) (hd : dstB n o.dst = true) (hg : wantB ops M o.guard = some true)
    (k : ∀ w1, RowL w1 g t (row.take off ++ cs ++ row.drop (off + cs.length)) → w.grownBy w1 (some g) → w1.heap.size = w.heap.size → ok w1 ∧ K (putM M o.dst (.int .i64 (cs.length : Int))) w1) : SR P ops ok i K n D M w := by
  obtain ⟨hu, hz1⟩ := sl_of hz
  have hrun := run_copy_row (P := P) w dT sT o.type e g off dl dc p sl sc row.toArray t cs hu hz1 hr hn hcs (by simpa using hfit) h1
  have h := k _ (setRow_heap w g row.toArray _ t (0, 0) hr) (setRow_grown w g _) (by simp)
  refine SR.val (v := .int .i64 (cs.length : Int)) hi (R.builtin ho hx fun b => ?_) hd hg h.1 h.2
  unfold builtin
  simp only [Sem.run_bind, hrun, Result.andThen_ok, Sem.run_pure]
  rfl
end
theorem layL_len (l : Bs) : (layL (nbL l)).length = (l.length + 7) / 8 := by rw [layL_length, nbL_len]
/-- Words, in which others stand from a place on. -/
def putL (ws : List Nat) (i : Nat) (xs : List Nat) : List Nat := ws.take i ++ xs ++ ws.drop (i + xs.length)
theorem putL_len {ws xs : List Nat} {i n : Nat} (h : ws.length = n) (hi : i + xs.length ≤ n) : (putL ws i xs).length = n := by
  simp only [putL, List.length_append, List.length_take, List.length_drop]
  omega
/-- The words under way: where the next one goes, and what was laid. -/
structure OutW (w : World) (gv gw ga at_ : Nat) (ws : List Nat) : Prop where
  ra : RowL w ga 3 [.int .i64 (at_ : Int)]
  rv : RowL w gv 33 [.slice (some ⟨gw, 0, none⟩) 16 16]
  rw_ : RowL w gw 25 (ints .u64 ws)
  len : ws.length = 16
  ne : ga ≠ gv ∧ ga ≠ gw ∧ gv ≠ gw
theorem OutW.up {w w' : World} {gv gw ga at_ : Nat} {ws : List Nat} (h : OutW w gv gw ga at_ ws) (b : Below w.heap.size w w') : OutW w' gv gw ga at_ ws := ⟨h.ra.up b, h.rv.up b, h.rw_.up b, h.len, h.ne⟩
theorem OutW.gr {w w' : World} {gv gw ga at_ g : Nat} {ws : List Nat} (h : OutW w gv gw ga at_ ws) (b : w.grownBy w' (some g)) (hne : g ≠ gv ∧ g ≠ gw ∧ g ≠ ga) : OutW w' gv gw ga at_ ws := ⟨h.ra.gr b (by omega), h.rv.gr b (by omega), h.rw_.gr b (by omega), h.len, h.ne⟩
theorem OutW.lts {w : World} {gv gw ga at_ : Nat} {ws : List Nat} (h : OutW w gv gw ga at_ ws) : gv < w.heap.size ∧ gw < w.heap.size ∧ ga < w.heap.size := ⟨h.rv.lt, h.rw_.lt, h.ra.lt⟩
abbrev KO (w : World) (gw ga : Nat) (i : Nat) : Prop := i < w.heap.size ∧ i ≠ gw ∧ i ≠ ga
theorem ko_tr {w w1 w2 : World} {gw ga : Nat} (h : Kept (KO w gw ga) w w1) (h2 : Kept (KO w1 gw ga) w1 w2) : Kept (KO w gw ga) w w2 :=
  h.trans (h2.less fun j hj => ⟨by have := hj.1; have := h.size; omega, hj.2⟩)
abbrev fillV (ga gv : Nat) : Value := .func (.func 118) #[] #[.pointer (some ⟨ga, 0, none⟩), .pointer (some ⟨gv, 0, none⟩)]
theorem fill_any (gv gw ga at_ sl sc : Nat) (p : Addr) (ws xs : List Nat) (w : World) (O : OutW w gv gw ga at_ ws) (hxF : ∀ X, Kept (KO w gw ga) w X → Cells X p (ints .u64 xs)) (hsl : xs.length = sl) (hfit : at_ + sl ≤ 16) (h1 : 1 ≤ sl) (hsc : sl ≤ sc) : Calls Tryz.prog 118 #[.slice (some p) sl sc, .pointer (some ⟨ga, 0, none⟩), .pointer (some ⟨gv, 0, none⟩)] w fun e w' => e = .returned (.tuple #[]) ∧ OutW w' gv gw ga (at_ + sl) (putL ws at_ xs) ∧ Kept (KO w gw ga) w w' := by
  have lO := O.lts
  obtain ⟨ra, rv, rw_, len, ne1, ne2, ne3⟩ := O
  have hkk := Kept.refl (KO w gw ga) w
  have hil : (ints .u64 xs).length = sl := by simp [ints, hsl]
  have hwl : (ints .u64 ws).length = 16 := by simp [ints, len]
  refine X.fn Tryz.func118 rfl (n := 11) rfl rfl ?_
  refine CC.join (fun l_ W34 => l_ = [] ∧ (RowL W34 gw 25 (ints IntKind.u64 (putL ws at_ xs))) ∧ (RowL W34 gv 33 [Value.slice (some { block := gw, off := 0 }) 16 16]) ∧ (Kept (KO w gw ga) w W34) ∧ (RowL W34 ga 3 [Value.int IntKind.i64 ↑(at_ + (ints IntKind.u64 xs).length)]) ∧ (w.heap.size ≤ W34.heap.size)) (fun J38 => ?_) ?restJ38
  case' restJ38 =>
    clear rv
    clear hkk
    clear ra
    rintro _ W34 ⟨rfl, r9, rv, hkk, ra, z37⟩
  refine EE.end _ rfl rfl ?_
  exact ⟨rfl, ⟨(by rw [hil] at *; assumption), by assumption, by assumption, putL_len len (by omega), ne1, ne2, ne3⟩, hkk⟩
  refine CC.freeZ (fun W_ j => j < W_.heap.size ∧ (j ≠ gw ∧ j ≠ ga)) (by kernel_rfl) (by kernel_rfl) (fun W40 b39 z41 => ?_)
  replace ra := ra.up b39; replace rv := rv.up b39; replace rw_ := rw_.up b39; replace hkk := Zh hkk b39; have y42 := hkk.size
  have hok : Kept (fun j => j < W40.heap.size ∧ (j ≠ gw ∧ j ≠ ga)) W40 W40 := Kept.refl _ _
  have fzrv := fzRow (K := fun j => j < W40.heap.size ∧ (j ≠ gw ∧ j ≠ ga)) rv ⟨rv.lt, (by first | trivial | omega)⟩
  refine AA.pure 1 rfl hok (by kernel_rfl) (fun w' b' => R.load rfl rfl (I.ld1 rfl (RowL.cell (fzrv w' b') rfl))) rfl rfl ?_
  refine AA.pure 4 rfl hok (by kernel_rfl) (fun w' b' => R.move rfl rfl) rfl rfl ?_
  refine AA.two 0 2 (by kernel_rfl) ?_ ?_
  refine SR.val rfl (R.load rfl rfl (I.ld1 rfl (RowL.cell ra rfl))) rfl rfl hok ?_
  refine AA.one 2 (by kernel_rfl) ?_
  refine SR.val rfl (R.load rfl rfl (I.ld1 rfl (RowL.cell ra rfl))) rfl rfl hok ?_
  refine AA.pure 3 rfl hok (by kernel_rfl) (fun w' b' => R.slice rfl rfl rfl rfl rfl (I.slFrom rfl (by omega) (by omega) (by omega))) rfl rfl ?_
  refine AA.one 5 (by kernel_rfl) ?_
  (refine SR.copy rfl rfl rfl rfl (by assumption) (hxF _ hkk) (by rw [hil]; exact (Nat.min_eq_left (a := sl) (b := 16 - at_) (by omega)).symm) (by rw [hil, hwl]; show 0 + at_ * 1 + sl ≤ 16; omega) (fun v hv => by simp only [ints, List.mem_map] at hv; obtain ⟨y, _, rfl⟩ := hv; rfl) rfl rfl ?_; intro W60 r9 gr58 zz63; replace r9 : RowL W60 gw 25 (ints .u64 (putL ws at_ xs)) := by have h9 : RowL W60 gw 25 ((ints .u64 ws).take (0 + at_ * 1) ++ ints .u64 xs ++ (ints .u64 ws).drop (0 + at_ * 1 + (ints .u64 xs).length)) := r9; (rw [show 0 + at_ * 1 = at_ by omega, show (ints .u64 xs).length = xs.length by simp [ints]] at h9); simp only [putL, ints, List.map_append, List.map_take, List.map_drop]; exact h9)
  have zgr58 := gr58.size; replace ra := Zd ra gr58; replace rv := Zd rv gr58; replace hkk := Zo hkk gr58; replace hok := Zo hok gr58
  refine ⟨hok, ?_⟩
  refine AA.pure 6 rfl hok (by kernel_rfl) (fun w' b' => R.addN rfl rfl rfl (by omega)) rfl rfl ?_
  refine AA.one 7 (by kernel_rfl) ?_
  refine ZR.store rfl rfl rfl rfl rfl ra (by exact Nat.le_of_ble_eq_true rfl) rfl rfl rfl rfl ?_
  intro W72 r73 b71 z74
  have hlb71 := ra.lt
  replace r73 : RowL W72 _ 3 [.int .i64 ↑(at_ + (ints .u64 xs).length)] := r73
  clear ra
  replace r9 := Zd r9 b71; replace rv := Zd rv b71; replace hkk := Zo hkk b71; replace hok := Zo hok b71
  have ra := r73
  clear r73
  refine ⟨hok, ?_⟩
  refine AA.done rfl ?_
  clear fzrv hok
  refine EE.end _ rfl rfl ?_
  exact ⟨rfl, ⟨(by rw [hil] at *; assumption), by assumption, by assumption, putL_len len (by omega), ne1, ne2, ne3⟩, hkk⟩
  refine SR.val rfl (R.load rfl rfl (I.ld1 rfl (RowL.cell ra rfl))) rfl rfl hok ?_
  refine AA.pure 3 rfl hok (by kernel_rfl) (fun w' b' => R.slice rfl rfl rfl rfl rfl (I.slFrom rfl (by omega) (by omega) (by omega))) rfl rfl ?_
  refine AA.two 0 5 (by kernel_rfl) ?_ ?_
  refine SR.val rfl (R.load rfl rfl (I.ld1 rfl (RowL.cell ra rfl))) rfl rfl hok ?_
  refine AA.one 5 (by kernel_rfl) ?_
  (refine SR.copy rfl rfl rfl rfl (by assumption) (hxF _ hkk) (by rw [hil]; exact (Nat.min_eq_left (a := sl) (b := 16 - at_) (by omega)).symm) (by rw [hil, hwl]; show 0 + at_ * 1 + sl ≤ 16; omega) (fun v hv => by simp only [ints, List.mem_map] at hv; obtain ⟨y, _, rfl⟩ := hv; rfl) rfl rfl ?_; intro W92 r9 gr90 zz95; replace r9 : RowL W92 gw 25 (ints .u64 (putL ws at_ xs)) := by have h9 : RowL W92 gw 25 ((ints .u64 ws).take (0 + at_ * 1) ++ ints .u64 xs ++ (ints .u64 ws).drop (0 + at_ * 1 + (ints .u64 xs).length)) := r9; (rw [show 0 + at_ * 1 = at_ by omega, show (ints .u64 xs).length = xs.length by simp [ints]] at h9); simp only [putL, ints, List.map_append, List.map_take, List.map_drop]; exact h9)
  have zgr90 := gr90.size; replace ra := Zd ra gr90; replace rv := Zd rv gr90; replace hkk := Zo hkk gr90; replace hok := Zo hok gr90
  refine ⟨hok, ?_⟩
  refine AA.pure 6 rfl hok (by kernel_rfl) (fun w' b' => R.addN rfl rfl rfl (by omega)) rfl rfl ?_
  refine AA.one 7 (by kernel_rfl) ?_
  refine ZR.store rfl rfl rfl rfl rfl ra (by exact Nat.le_of_ble_eq_true rfl) rfl rfl rfl rfl ?_
  intro W104 r105 b103 z106
  have hlb103 := ra.lt
  replace r105 : RowL W104 _ 3 [.int .i64 ↑(at_ + (ints .u64 xs).length)] := r105
  clear ra
  replace r9 := Zd r9 b103; replace rv := Zd rv b103; replace hkk := Zo hkk b103; replace hok := Zo hok b103
  have ra := r105
  clear r105
  refine ⟨hok, ?_⟩
  refine AA.done rfl ?_
  clear fzrv hok
  refine EE.end _ rfl rfl ?_
  exact ⟨rfl, ⟨(by rw [hil] at *; assumption), by assumption, by assumption, putL_len len (by omega), ne1, ne2, ne3⟩, hkk⟩
  (refine SR.copy rfl rfl rfl rfl (by assumption) (hxF _ hkk) (by rw [hil]; exact (Nat.min_eq_left (a := sl) (b := 16 - at_) (by omega)).symm) (by rw [hil, hwl]; show 0 + at_ * 1 + sl ≤ 16; omega) (fun v hv => by simp only [ints, List.mem_map] at hv; obtain ⟨y, _, rfl⟩ := hv; rfl) rfl rfl ?_; intro W110 r9 gr108 zz113; replace r9 : RowL W110 gw 25 (ints .u64 (putL ws at_ xs)) := by have h9 : RowL W110 gw 25 ((ints .u64 ws).take (0 + at_ * 1) ++ ints .u64 xs ++ (ints .u64 ws).drop (0 + at_ * 1 + (ints .u64 xs).length)) := r9; (rw [show 0 + at_ * 1 = at_ by omega, show (ints .u64 xs).length = xs.length by simp [ints]] at h9); simp only [putL, ints, List.map_append, List.map_take, List.map_drop]; exact h9)
  have zgr108 := gr108.size; replace ra := Zd ra gr108; replace rv := Zd rv gr108; replace hkk := Zo hkk gr108; replace hok := Zo hok gr108
  refine ⟨hok, ?_⟩
  refine AA.one 0 (by kernel_rfl) ?_
  refine SR.val rfl (R.load rfl rfl (I.ld1 rfl (RowL.cell ra rfl))) rfl rfl hok ?_
  refine AA.pure 6 rfl hok (by kernel_rfl) (fun w' b' => R.addN rfl rfl rfl (by omega)) rfl rfl ?_
  refine AA.one 7 (by kernel_rfl) ?_
  refine ZR.store rfl rfl rfl rfl rfl ra (by exact Nat.le_of_ble_eq_true rfl) rfl rfl rfl rfl ?_
  intro W129 r130 b128 z131
  have hlb128 := ra.lt
  replace r130 : RowL W129 _ 3 [.int .i64 ↑(at_ + (ints .u64 xs).length)] := r130
  clear ra
  replace r9 := Zd r9 b128; replace rv := Zd rv b128; replace hkk := Zo hkk b128; replace hok := Zo hok b128
  have ra := r130
  clear r130
  refine ⟨hok, ?_⟩
  refine AA.done rfl ?_
  clear fzrv hok
  refine EE.end _ rfl rfl ?_
  exact ⟨rfl, ⟨(by rw [hil] at *; assumption), by assumption, by assumption, putL_len len (by omega), ne1, ne2, ne3⟩, hkk⟩
theorem row_src {w : World} {g e gw ga : Nat} {xs : List Nat} (r : RowL w g e (ints .u64 xs)) (h1 : g ≠ gw) (h2 : g ≠ ga) : ∀ X, Kept (KO w gw ga) w X → Cells X ⟨g, 0, none⟩ (ints .u64 xs) := fun X h => (r.kept h ⟨r.lt, h1, h2⟩).cells0
theorem Start.kept {w w' : World} {K : Nat → Prop} (h : Start w) (k : Kept K w w') (hK : K 0) : Start w' := by
  have e := k.block 0 hK
  have key : ∀ {p : Addr} {v : Value}, p.block = 0 → w.cell? p = some v → w'.cell? p = some v := fun {p v} hp hc => (World.cell?_of_block (by rw [hp]; exact e)).trans hc
  exact ⟨key rfl h.c0, key rfl h.c1, key rfl h.c2, Nat.lt_of_lt_of_le h.pos k.size⟩
/-- The words of a map. -/
def wrdN (m : List Ex) : List Nat := (wrdZ m).map Int.toNat
theorem wrdN_ints {m : List Ex} (h : ∀ x ∈ m, mayE x) : intsZ .u64 (wrdZ m) = ints .u64 (wrdN m) := by
  unfold intsZ ints wrdN
  rw [List.map_map]
  refine List.map_congr_left fun z hz => ?_
  obtain ⟨i, hi⟩ := List.mem_iff_getElem?.1 hz
  have := (wrdZ_bnd h i z hi).1
  simp only [Function.comp_apply]
  rw [Int.toNat_of_nonneg this]
theorem wrdN_len {m : List Ex} (h : vL m) : (wrdN m).length = 10 := by unfold wrdN; rw [List.length_map, wrdZ_len h.1]
/-- What a file, a directory, a link lays. -/
def layF (ws : List Nat) (z : Nat) (m : List Ex) : List Nat := putL (putL ws 1 [z]) 2 (wrdN m)
def layD (ws : List Nat) (r p : Nat) : List Nat := putL ws 1 [0, r, p]
def layK (ws : List Nat) (t : Bs) : List Nat := putL (putL ws 1 [t.length]) 2 (layL (nbL t))
def laidP (gv gw ga : Nat) (ws : List Nat) (w0 : World) (e : Ending) (w : World) : Prop := e = .returned (.tuple #[]) ∧ (∃ at_, OutW w gv gw ga at_ ws) ∧ Kept (KO w0 gw ga) w0 w
theorem ly0_any (k l z : Int) (a : Value) (r p : Int) (t : Bs) (gv gw ga at_ : Nat) (ws : List Nat) (w : World) (ha : ∃ x n c, a = .slice x n c) (O : OutW w gv gw ga at_ ws) : Calls Tryz.prog 98 #[inV k l z a r p t, fillV ga gv] w (laidP gv gw ga ws w) := by
  unfold laidP
  have hkk := Kept.refl (KO w gw ga) w
  have lO := O.lts
  obtain ⟨xa, na, ca, rfl⟩ := ha
  refine X.fn Tryz.func98 rfl (n := 4) rfl rfl ?_
  refine CC.region ?_
  refine LL.box [.int .i64 k, .int .i64 l, .int .i64 z, .slice xa na ca, .int .i64 r, .int .i64 p, strV t] rfl rfl rfl rfl rfl ?_
  intro W2 g3 eg3 r4 z5 b1
  replace O := O.up b1; replace hkk := Zh hkk b1; have y6 := hkk.size; refine ZL ?_; refine EE.end _ rfl rfl ?_
  exact ⟨rfl, ⟨_, O⟩, hkk⟩
theorem ly2_any (k l z : Int) (a : Value) (r p : Nat) (t : Bs) (gv gw ga : Nat) (ws : List Nat) (w : World) (ha : ∃ x n c, a = .slice x n c) (hr : r ≤ 2047) (hp : p ≤ 256) (O : OutW w gv gw ga 1 ws) : Calls Tryz.prog 107 #[inV k l z a (r : Int) (p : Int) t, fillV ga gv] w (laidP gv gw ga (layD ws r p) w) := by
  unfold laidP
  have hkk := Kept.refl (KO w gw ga) w
  have lO := O.lts
  have ne := O.ne
  obtain ⟨xa, na, ca, rfl⟩ := ha
  refine X.fn Tryz.func107 rfl (n := 15) rfl rfl ?_
  refine Zr ?_
  refine LL.box [.int .i64 k, .int .i64 l, .int .i64 z, .slice xa na ca, .int .i64 ↑r, .int .i64 ↑p, strV t] rfl rfl rfl rfl rfl ?_
  intro W9 g10 eg10 r11 z12 b8
  replace O := O.up b8; replace hkk := Zh hkk b8; have y13 := hkk.size; refine Zq ?_; refine CC.region ?_; refine Zm ?_; refine Zf ?_; refine Zf ?_; refine Zl r11 ?_
  refine LL.val (R.convI rfl rfl rfl rfl (wrapU (by omega) (by omega))) rfl rfl rfl ?_
  refine Zf ?_; refine Zf ?_; refine Zl r11 ?_
  refine LL.val (R.convI rfl rfl rfl rfl (wrapU (by omega) (by omega))) rfl rfl rfl ?_
  have l84 := r11.lt
  refine LL.lit (e := 25) [Value.int IntKind.u64 0, Value.int IntKind.u64 ↑r, Value.int IntKind.u64 ↑p] 3 rfl rfl (fun _ => by kernel_rfl) rfl rfl ?_
  intro W86 g87 eg87 r88 z89 b85
  replace r11 := r11.up b85; replace O := O.up b85; replace hkk := Zh hkk b85; have y90 := hkk.size
  (refine LL.call (R.callV rfl rfl rfl rfl) rfl rfl rfl (fill_any gv gw ga 1 3 3 ⟨_, 0, none⟩ ws [0, r, p] _ O (row_src (xs := [0, r, p]) (by assumption) (by omega) (by omega)) rfl (by omega) (by omega) (by omega)) ?_; rintro e W94 ⟨rfl, O2, t93⟩; refine ⟨_, rfl, ?_⟩; replace hkk := ko_tr hkk t93; clear O; have O := O2; clear O2)
  have zt93 := t93.size
  replace r88 := r88.kept t93 ⟨r88.lt, by omega⟩
  replace r11 := r11.kept t93 ⟨r11.lt, by omega⟩
  refine ZL ?_; refine EE.end _ rfl rfl ?_
  exact ⟨rfl, ⟨_, O⟩, hkk⟩
theorem ly1_any (k l : Int) (z : Nat) (x : Option Addr) (n c : Nat) (r p : Int) (t : Bs) (m : List Ex) (gv gw ga : Nat) (ws : List Nat) (w : World) (hS : Start w) (hg0 : 0 < gw ∧ 0 < ga) (hv : ReadsT eE 3 w (.slice x n c) m) (hm : vL m) (hz : z ≤ 65536) (O : OutW w gv gw ga 1 ws) : Calls Tryz.prog 102 #[inV k l (z : Int) (.slice x n c) r p t, fillV ga gv] w (laidP gv gw ga (layF ws z m) w) := by
  unfold laidP
  have hkk := Kept.refl (KO w gw ga) w
  have lO := O.lts
  have ne := O.ne
  have hvF : ∀ X, Below w.heap.size w X → ReadsT eE 3 X (.slice x n c) m := fun X b => hv.up b
  have hSF : ∀ X, Below w.heap.size w X → Start X := fun X b => hS.up b
  have q := Below.refl w.heap.size w
  have e1 := wrdN_ints hm.2.1
  have l1 := wrdN_len hm
  have hw := fun (X : World) (b : Below w.heap.size w X) => words_T m (.slice x n c) X (hSF X b) (hvF X b) hm
  have l2 : (wrdZ m).length = 10 := wrdZ_len hm.1
  clear hv hS
  refine X.fn Tryz.func102 rfl (n := 26) rfl rfl ?_
  refine Zr ?_
  refine LL.box [.int .i64 k, .int .i64 l, .int .i64 ↑z, .slice x n c, .int .i64 r, .int .i64 p, strV t] rfl rfl rfl rfl rfl ?_
  intro W23 g24 eg24 r25 z26 b22
  replace O := O.up b22; replace hkk := Zh hkk b22; have y27 := hkk.size; replace q := Zu q b22; refine Zq ?_; refine Zr ?_; refine Zf ?_; refine Zf ?_; refine Zl r25 ?_; have l98 := r25.lt
  (refine Zy (R.call rfl rfl rfl) (hw _ q) ?_; rintro e W97 ⟨rfl, b94⟩; refine ⟨_, rfl, ?_⟩)
  have zb94 := b94.size; replace r25 := r25.up b94; replace O := O.up b94; replace hkk := Zh hkk b94; have y102 := hkk.size; replace q := Zu q b94; refine Zm ?_; refine Zx ?_; refine Zx ?_; have l191 := r25.lt
  refine LL.alloc (intsZ .u64 (List.replicate 10 0)) rfl rfl rfl rfl rfl ?_
  intro W193 g194 eg194 r195 z196 b192
  replace r25 := r25.up b192; replace O := O.up b192; replace hkk := Zh hkk b192; have y197 := hkk.size; replace q := Zu q b192
  refine LL.storeAZ rfl rfl rfl rfl (by first | assumption | exact List.length_replicate | exact plL_len _ | exact plOf_len _ | simp) r195 (by first | (rw [List.length_map]; exact (by first | assumption | exact List.length_replicate | exact plL_len _ | exact plOf_len _ | simp)) | simp) rfl rfl ?_
  intro W222 r223 b221 z224
  have hlb221 := r195.lt
  clear r195
  replace r25 := Zd r25 b221
  replace O := O.gr b221 (by omega)
  replace hkk := Zo hkk b221; replace q := Zg q b221
  have r195 := r223
  clear r223
  refine Za ?_; refine Zq ?_; refine Zr ?_; refine Zm ?_; refine ZneF ?_
  refine Zy (R.call rfl rfl rfl) (refuse_F _) ?_
  rintro e W' ⟨rfl, rfl⟩
  refine ⟨_, rfl, ?_⟩; refine Zq ?_; refine Zr ?_; refine Zm ?_; refine Zf ?_; refine Zf ?_; refine Zl r25 ?_
  refine LL.val (R.convI rfl rfl rfl rfl (wrapU (by omega) (by omega))) rfl rfl rfl ?_
  have l455 := r25.lt; have l456 := r195.lt
  refine LL.lit (e := 25) [Value.int IntKind.u64 ↑z] 1 rfl rfl (fun _ => by kernel_rfl) rfl rfl ?_
  intro W458 g459 eg459 r460 z461 b457
  replace r25 := r25.up b457; replace O := O.up b457; replace hkk := Zh hkk b457; have y462 := hkk.size; replace q := Zu q b457; replace r195 := r195.up b457
  (refine LL.call (R.callV rfl rfl rfl rfl) rfl rfl rfl (fill_any gv gw ga 1 1 1 ⟨_, 0, none⟩ ws [z] _ O (row_src (xs := [z]) (by assumption) (by omega) (by omega)) rfl (by omega) (by omega) (by omega)) ?_; rintro e W476 ⟨rfl, O2, t475⟩; refine ⟨_, rfl, ?_⟩; replace hkk := ko_tr hkk t475; clear O q; have O := O2; clear O2)
  have zt475 := t475.size
  replace r460 := r460.kept t475 ⟨r460.lt, by omega⟩
  replace r25 := r25.kept t475 ⟨r25.lt, by omega⟩
  replace r195 := r195.kept t475 ⟨r195.lt, by omega⟩
  refine Zq ?_; refine CC.region ?_; refine Zm ?_
  refine LL.val (R.slice rfl rfl rfl rfl rfl (I.slA rfl)) rfl rfl rfl ?_
  (refine LL.call (R.callV rfl rfl rfl rfl) rfl rfl rfl (fill_any gv gw ga 2 10 10 ⟨_, 0, none⟩ (putL ws 1 [z]) (wrdN m) _ O (row_src (xs := wrdN m) (by rw [← e1]; assumption) (by omega) (by omega)) l1 (by omega) (by omega) (by omega)) ?_; rintro e W548 ⟨rfl, O2, t547⟩; refine ⟨_, rfl, ?_⟩; replace hkk := ko_tr hkk t547; clear O; have O := O2; clear O2)
  have zt547 := t547.size
  replace r460 := r460.kept t547 ⟨r460.lt, by omega⟩
  replace r25 := r25.kept t547 ⟨r25.lt, by omega⟩
  replace r195 := r195.kept t547 ⟨r195.lt, by omega⟩
  refine ZL ?_; refine EE.end _ rfl rfl ?_
  exact ⟨rfl, ⟨_, O⟩, hkk⟩
theorem ly3_any (k l z : Int) (a : Value) (r p : Int) (t : Bs) (gv gw ga : Nat) (ws : List Nat) (w : World) (ha : ∃ x n c, a = .slice x n c) (ht : 1 ≤ t.length ∧ t.length ≤ 112) (O : OutW w gv gw ga 1 ws) : Calls Tryz.prog 113 #[inV k l z a r p t, fillV ga gv] w (laidP gv gw ga (layK ws t) w) := by
  unfold laidP
  have hkk := Kept.refl (KO w gw ga) w
  have lO := O.lts
  have ne := O.ne
  have l1 := layL_len t
  obtain ⟨xa, na, ca, rfl⟩ := ha
  refine X.fn Tryz.func113 rfl (n := 19) rfl rfl ?_
  refine Zr ?_
  refine LL.box [.int .i64 k, .int .i64 l, .int .i64 z, .slice xa na ca, .int .i64 r, .int .i64 p, strV t] rfl rfl rfl rfl rfl ?_
  intro W23 g24 eg24 r25 z26 b22
  replace O := O.up b22; replace hkk := Zh hkk b22; have y27 := hkk.size; refine Zq ?_; refine Zr ?_; refine Zm ?_; refine Zf ?_; refine Zf ?_; refine Zl r25 ?_
  refine LL.val (R.lenS rfl rfl rfl rfl) rfl rfl rfl ?_
  refine LL.val (R.convI rfl rfl rfl rfl (wrapU (by omega) (by omega))) rfl rfl rfl ?_
  have l182 := r25.lt
  refine LL.lit (e := 25) [Value.int IntKind.u64 ↑(List.length t)] 1 rfl rfl (fun _ => by kernel_rfl) rfl rfl ?_
  intro W184 g185 eg185 r186 z187 b183
  replace r25 := r25.up b183; replace O := O.up b183; replace hkk := Zh hkk b183; have y188 := hkk.size
  (refine LL.call (R.callV rfl rfl rfl rfl) rfl rfl rfl (fill_any gv gw ga 1 1 1 ⟨_, 0, none⟩ ws [t.length] _ O (row_src (xs := [t.length]) (by assumption) (by omega) (by omega)) rfl (by omega) (by omega) (by omega)) ?_; rintro e W201 ⟨rfl, O2, t200⟩; refine ⟨_, rfl, ?_⟩; replace hkk := ko_tr hkk t200; clear O; have O := O2; clear O2; have lO2 := O.lts)
  have zt200 := t200.size
  replace r186 := r186.kept t200 ⟨r186.lt, by omega⟩
  replace r25 := r25.kept t200 ⟨r25.lt, by omega⟩
  refine Zq ?_; refine CC.region ?_; refine Zm ?_; refine Zf ?_; refine Zf ?_; refine Zl r25 ?_; have l320 := r186.lt; have l321 := r25.lt
  refine LL.strBytes (t) rfl rfl Go.Proofs.Tryz.underlying9 Go.Proofs.Tryz.underlying109 Go.Proofs.Tryz.underlying5 rfl rfl ?_
  intro v324 W323 k325 ev324 r326 b322
  replace hkk := Zh hkk b322; have y327 := hkk.size; replace O := O.up b322; replace r186 := r186.up b322; replace r25 := r25.up b322; have l332 := r186.lt; have l333 := r25.lt
  (refine Zy (R.call rfl rfl rfl) (lay_any _ (nbL t) ((t.length + 7) / 8) _ (by assumption) (nbL_lt t) (by rw [nbL_len]; omega) (by rw [nbL_len])) ?_; rintro e W331 ⟨g8, rfl, lg8, r8, b328⟩; refine ⟨_, rfl, ?_⟩)
  have zb328 := b328.size; replace r326 := r326.up b328; replace hkk := Zh hkk b328; have y337 := hkk.size; replace O := O.up b328; replace r186 := r186.up b328; replace r25 := r25.up b328
  (refine LL.call (R.callV rfl rfl rfl rfl) rfl rfl rfl (fill_any gv gw ga 2 ((t.length + 7) / 8) ((t.length + 7) / 8) ⟨_, 0, none⟩ (putL ws 1 [t.length]) (layL (nbL t)) _ O (row_src r8 (by omega) (by omega)) l1 (by omega) (by omega) (by omega)) ?_; rintro e W358 ⟨rfl, O2, t357⟩; refine ⟨_, rfl, ?_⟩; replace hkk := ko_tr hkk t357; clear O; have O := O2; clear O2)
  have zt357 := t357.size
  replace r8 := r8.kept t357 ⟨r8.lt, by omega⟩
  replace r186 := r186.kept t357 ⟨r186.lt, by omega⟩
  replace r25 := r25.kept t357 ⟨r25.lt, by omega⟩
  refine ZL ?_; refine EE.end _ rfl rfl ?_
  exact ⟨rfl, ⟨_, O⟩, hkk⟩
theorem ofo_T (ws : List Int) (w : World) (hs : Start w) (hl : ws.length = 10) (hw : ∀ (i : Nat) (z : Int), ws[i]? = some z → 0 ≤ z ∧ z < 18446744073709551616) (hm : mapW ws) : Calls Tryz.prog 126 #[wdV ws] w fun e w' => ∃ v, e = .returned (.tuple #[v, .int .i64 0]) ∧ OwnsT eE 3 w' w.heap.size 124 v (outZ ws) ∧ Below w.heap.size w w' := by
  have q := Below.refl w.heap.size w
  have hp := hs.pos
  have hsF : ∀ W, Below w.heap.size w W → Start W := fun W hb => hs.up hb
  clear hs
  refine X.fn Tryz.func126 rfl (n := 34) rfl rfl ?_
  refine Zr ?_; refine LL.box _ rfl rfl rfl rfl rfl ?_
  intro W2 g3 eg3 r4 z5 b1
  replace q := Zu q b1; refine Za ?_; refine Za ?_; refine Zq ?_; refine Zr ?_; refine Za ?_; refine Zq ?_; refine Zc ?_; refine Zr ?_
  refine LL.val (R.loadZ rfl rfl r4 rfl rfl (by first | assumption | exact List.length_replicate | exact plL_len _ | exact plOf_len _ | simp)) rfl rfl rfl ?_
  refine Zm ?_; refine Zq ?_; refine CC.block ?_; have yw := q.size; have l3 := r4.lt
  have hB : ∃ B, W2.heap.size = B := ⟨_, rfl⟩
  obtain ⟨B, hB⟩ := hB
  rw [hB] at l3 yw
  refine CC.loop (α := Nat × Value) (fun s => [(1, .pointer (some ⟨g3, 0, none⟩)), (4, s.2), (9, wdV ws), (10, .int .i64 (s.1 : Int))]) (fun s W => s.1 ≤ 10 ∧ Below w.heap.size w W ∧ B ≤ W.heap.size ∧ RowL W g3 106 (intsZ .u64 ws) ∧ OwnsT eE 3 W B 124 s.2 (outZ (ws.take s.1))) (fun s => 10 - s.1) (0, .slice none 0 0) ⟨rfl, rfl, rfl, rfl, trivial⟩ ⟨by show 0 ≤ 10; omega, q, by omega, r4, OwnsT.none _ _ _⟩ ?_
  clear q r4
  rintro ⟨i, v⟩ W ⟨hi, q, yB, r4, o⟩
  simp only at hi o
  show CC none Tryz.prog _ 34 [] (sl [(1, .pointer (some ⟨g3, 0, none⟩)), (4, v), (9, wdV ws), (10, .int .i64 (i : Int))]) _ W
  have yq := q.size
  by_cases hlt : i < 10
  case pos =>
    obtain ⟨z, hz⟩ : ∃ z, ws[i]? = some z := ⟨_, List.getElem?_eq_getElem (by omega)⟩
    have hzb := hw i z hz
    obtain ⟨x, rfl⟩ : ∃ x : Nat, z = (x : Int) := ⟨z.toNat, by omega⟩
    have hst := outZ_succ hz
    have hol := outZ_len (ws.take i)
    rw [List.length_take] at hol
    by_cases h0 : x = 0
    · rw [if_pos (by omega), List.append_nil] at hst
      refine Zr ?_; refine ZltT ?_; refine Zq ?_; refine Zc ?_; refine ZY ?_; refine ZK ?_; refine ZT ?_; refine Zc ?_; refine CC.block ?_; refine Zr ?_
      refine LL.val (R.ixZ rfl rfl rfl rfl (by assumption) (by assumption)) rfl rfl rfl ?_
      refine Za ?_; refine Zq ?_; refine Zr ?_; refine Zm ?_; refine ZneF ?_; refine Zq ?_; refine ZN ?_; refine ZK ?_; refine EE.inN ?_; refine ZT ?_; refine CC.region ?_
      refine LL.val (R.addNc rfl rfl rfl rfl (by omega)) rfl rfl rfl ?_
      refine Zm ?_; refine ZL ?_
      exact EE.round (i + 1, v) ⟨rfl, rfl, rfl, rfl, trivial⟩ ⟨by show i + 1 ≤ 10; omega, q, yB, r4, by show OwnsT eE 3 _ _ _ v (outZ (ws.take (i + 1))); rw [hst]; exact o⟩ (by show 10 - (i + 1) < 10 - i; omega)
    rw [if_neg (by omega)] at hst
    have hs := hsF W q
    have hxb : x < 18446744073709551616 := by omega
    rw [Int.toNat_natCast] at hst
    refine Zr ?_; refine ZltT ?_; refine Zq ?_; refine Zc ?_; refine ZY ?_; refine ZK ?_; refine ZT ?_; refine Zc ?_; refine CC.block ?_; refine Zr ?_
    refine LL.val (R.ixZ rfl rfl rfl rfl (by assumption) (by assumption)) rfl rfl rfl ?_
    refine Za ?_; refine Zq ?_; refine Zr ?_; refine Zm ?_; refine ZneT ?_; refine Zq ?_; refine ZY ?_; refine CC.region ?_; refine Zm ?_; refine Zm ?_
    refine Zy (R.call rfl rfl rfl) (unpack_any _ _ (by first | assumption | omega) (by first | assumption | omega)) ?_
    rintro e Wb2 ⟨rfl, bb1⟩
    refine ⟨_, rfl, ?_⟩; have zbb1 := bb1.size; replace q := Zu q bb1; replace r4 := r4.up bb1; replace o := o.up bb1; replace hs := hs.up bb1; have lb4 := r4.lt
    refine LL.lit (e := 124) [Value.int IntKind.i64 (unpE x).1, Value.int IntKind.i64 (unpE x).2.1, Value.int IntKind.i64 (unpE x).2.2] 1 rfl rfl (fun _ => by kernel_rfl) rfl rfl ?_
    intro Wb6 gb7 egb7 rb8 zb9 bb5
    replace q := Zu q bb5; replace r4 := r4.up bb5; replace o := o.up bb5; replace hs := hs.up bb5
    refine LL.appendT2 rfl rfl eEnc ElEx o (RowL.readsT (ts := [unpE x]) eEnc (by assumption) 1 (by simp)) (by simp [maxLen]; omega) (by simp; omega) (by have := q.size; omega) rfl rfl ?_
    intro v' Wa oa gra hva
    replace q := q.grown gra (by have := q.size; omega) (fun g hg => by have := own_ge o g hg; omega)
    replace r4 := r4.grO gra (own_ne o l3)
    have hsz := gra.size
    rw [← hst] at oa
    refine Za ?_; refine ZL ?_; refine EE.inN ?_; refine ZT ?_; refine CC.region ?_
    refine LL.val (R.addNc rfl rfl rfl rfl (by omega)) rfl rfl rfl ?_
    refine Zm ?_; refine ZL ?_
    exact EE.round (i + 1, v') ⟨rfl, rfl, rfl, rfl, trivial⟩ ⟨by show i + 1 ≤ 10; omega, q, by omega, r4, oa⟩ (by show 10 - (i + 1) < 10 - i; omega)
  case neg =>
    obtain rfl : i = 10 := by omega
    rw [show ws.take 10 = ws from List.take_of_length_le (by omega)] at o
    have hr := o.reads eEnc
    have hol := outZ_len ws
    have hlo : (outZ ws).length ≤ 1048576 := by omega
    obtain ⟨n, hn⟩ : ∃ n, (outZ ws).length = n := ⟨_, rfl⟩
    obtain ⟨a, c, rfl, hc⟩ := hr.form hn
    have hrF := fun W' (hb : Below W.heap.size W W') => hr.up hb
    have hoF := fun W' (hb : Below W.heap.size W W') => (o.up hb).lower (show w.heap.size ≤ B by omega)
    have qW := Below.refl W.heap.size W
    clear o
    have hv := hm.1
    have he := hm.2
    refine Zr ?_; refine ZltF ?_; refine Zq ?_; refine Zc ?_; refine ZN ?_; refine CC.exit ?_; refine EE.thenX ?_; refine EE.thenX ?_; refine EE.inX ?_; refine ZT ?_; refine Zc ?_; refine Zr ?_; refine Zm ?_
    refine Zy (R.call rfl rfl rfl) (words_T (outZ ws) _ _ (hsF W q) hr hv) ?_
    rintro e W5 ⟨rfl, b5⟩
    refine ⟨_, rfl, ?_⟩; replace q := Zu q b5
    replace qW := qW.trans b5
    replace r4 := r4.up b5
    clear hr
    have y5 := b5.size
    clear b5
    have hwl := wrdZ_len (l := outZ ws) (by omega)
    refine Zm ?_; refine Zx ?_; refine Zx ?_; have le1 := r4.lt
    refine LL.alloc (intsZ .u64 (List.replicate 10 0)) rfl rfl rfl rfl rfl ?_
    intro We3 ge4 ege4 re5 ze6 be2
    replace q := Zu q be2; replace qW := Zu qW be2; replace r4 := r4.up be2
    refine LL.storeAZ rfl rfl rfl rfl (by first | assumption | exact List.length_replicate | exact plL_len _ | exact plOf_len _ | simp) re5 (by first | (rw [List.length_map]; exact (by first | assumption | exact List.length_replicate | exact plL_len _ | exact plOf_len _ | simp)) | simp) rfl rfl ?_
    intro We8 re9 be7 ze10
    have hlbe7 := re5.lt
    clear re5
    replace q := Zg q be7; replace qW := Zg qW be7; replace r4 := Zd r4 be7
    have re5 := re9
    clear re9
    refine Za ?_; refine Zq ?_; refine Zr ?_; refine Zm ?_; refine ZneF ?_; refine Zm ?_
    refine LL.val (R.loadZ rfl rfl re5 rfl rfl (by first | assumption | exact List.length_replicate | exact plL_len _ | exact plOf_len _ | simp)) rfl rfl rfl ?_
    refine LL.val (R.loadZ rfl rfl r4 rfl rfl (by first | assumption | exact List.length_replicate | exact plL_len _ | exact plOf_len _ | simp)) rfl rfl rfl ?_
    refine LL.val (R.neZT rfl rfl rfl Tryz.underlying106 Tryz.underlying25 rfl (by decide) rfl (by kernel_rfl) (by assumption) (by assumption) (by assumption)) rfl rfl rfl ?_
    refine Zp ?_; refine Zq ?_; refine ZN ?_; refine ZK ?_; refine ZT ?_; refine Zr ?_; refine Zm ?_; refine Za ?_; refine Za ?_; refine Zq ?_; refine ZR ?_; refine EE.ret _ rfl rfl ?_
    exact ⟨_, rfl, hoF _ qW, q⟩
set_option linter.unusedVariables false
set_option linter.unusedSimpArgs false
section
variable {P : Program} {ops : Array Oper} {Q : Exit → Act → World → Prop} {ok : World → Prop} {r : Option Nat}
/-- A call that panics, whatever else was yielded. -/
def panS (P : Program) (ops : Array Oper) (Q : Exit → Act → World → Prop) (i : Nat) (a : Act) (w : World) : Prop :=
  ∃ o f args R, ops[i]? = some o ∧ dfB o.op = false ∧ Region.wanted o (yielded ops a.tmps) = true ∧ (execOp a.eval o).run P w = .ok (.enter f args) w ∧ Calls P f args w R ∧ ∀ e w'', R e w'' → ∃ ch, e = .panicked ch ∧ ∀ a' : Act, a'.defers = a.defers → a'.tmps.size = a.tmps.size → Q (.panic ch) a' w''
def AnyP (P : Program) (ops : Array Oper) (ok : World → Prop) (Q : Exit → Act → World → Prop) : Nat → Array Bool → Act → World → Prop
  | 0, listed, a, w => Region.ready .any ops listed = [] ∧ Q .normal a w
  | f + 1, listed, a, w => (Region.ready .any ops listed = [] → Q .normal a w) ∧ ∀ i ∈ Region.ready .any ops listed, stepR P ops ok i (AnyP P ops ok Q f (listed.setIfInBounds i true)) a w ∨ panS P ops Q i a w
theorem wpAny_of_P (hdf : ∀ (j : Nat) (o : Oper), ops[j]? = some o → dfB o.op = false) : ∀ (f : Nat) (listed : Array Bool) (a : Act) (w : World), AnyP P ops ok Q f listed a w → wpAnyIn (Wr r) 3 P .any ops Q f listed a w
  | 0, _, _, _, h => h
  | f + 1, listed, a, w, h => ⟨h.1, fun i hi => by
    rcases h.2 i hi with h2 | ⟨o, fn, args, R, ho, hd, hw, hr, hc, hk⟩
    · unfold stepR at h2
      unfold wpOpIn
      split
      · rename_i ho; simp only [ho] at h2; exact wpAny_of_P hdf f _ _ _ h2
      · rename_i o ho
        simp only [ho] at h2
        split
        · rename_i hw
          rw [if_pos hw] at h2
          exact wpIn_of_actR (hdf _ _ ho) (actR_mono (fun a' w' hk => wpAny_of_P hdf f _ _ _ hk.2) h2)
        · rename_i hw
          rw [if_neg hw] at h2
          exact ⟨about_wr a, wpAny_of_P hdf f _ _ _ h2⟩
    · unfold wpOpIn
      simp only [ho]
      rw [if_pos hw]
      refine wpIn_of_run hd hr ⟨fun h => (by cases h), callsWr (hc.mono fun e w' hR => ?_)⟩
      obtain ⟨ch, rfl, hq⟩ := hk e w' hR
      exact hq a rfl rfl⟩
theorem panS_put {j : Nat} {oi oj : Oper} {v : Value} {a : Act} {w : World} (hj : ops[j]? = some oj) (hap : oi.apart ops oj = true) (hsj : ∀ cs b, oj.op ≠ .select cs b) (h : panS P ops Q j (a.put oi.dst v) w) : panS P ops Q j a w := by
  obtain ⟨h1, h2, h3⟩ := Oper.apart_spec hap
  obtain ⟨o, fn, args, R, ho, hd, hw, hr, hc, hk⟩ := h
  rw [hj] at ho
  cases ho
  rw [wanted_put oj a oi.dst v h1] at hw
  rw [execOp_put oj hsj a oi.dst v h1] at hr
  exact ⟨oj, fn, args, R, hj, hd, hw, hr, hc, fun e w'' hR => by
    obtain ⟨ch, he, hq⟩ := hk e w'' hR
    exact ⟨ch, he, fun a' ha hs => hq a' (by rw [ha]; cases oi.dst <;> rfl) (by rw [hs]; cases oi.dst <;> simp [Act.put])⟩⟩
theorem pure_firstP {i : Nat} {oi : Oper} {v : Value} (hi : ops[i]? = some oi) (hsel : ∀ (j : Nat) (o : Oper) cs b, ops[j]? = some o → o.op ≠ .select cs b) :
    ∀ (f : Nat) (listed : Array Bool) (a : Act) (w : World),
      (∀ j oj, ops[j]? = some oj → j ≠ i → listed.getD j true = false → (∀ e ∈ oj.after, Region.binds .any e = true → e.on ≠ i) → oi.apart ops oj = true) →
      i ∈ Region.ready .any ops listed → ok w → Pure P ops ok oi v a → AnyP P ops ok Q f (listed.setIfInBounds i true) (a.put oi.dst v) w → AnyP P ops ok Q (f + 1) listed a w := by
  intro f
  induction f with
  | zero =>
    intro listed a w _ hr hw hy H
    refine ⟨fun h => (by rw [h] at hr; cases hr), fun j hj => ?_⟩
    by_cases hji : j = i
    · subst hji; exact .inl (hy.step hi hw H)
    · have := ready_mono hj hji
      rw [H.1] at this
      cases this
  | succ f ih =>
    intro listed a w hfree hr hw hy H
    refine ⟨fun h => (by rw [h] at hr; cases hr), fun j hj => ?_⟩
    by_cases hji : j = i
    · subst hji; exact .inl (hy.step hi hw H)
    · have h1 := H.2 j (ready_mono hj hji)
      obtain ⟨hjun, oj, hoj, hall⟩ := mem_ready.1 hj
      have hnot : ∀ e ∈ oj.after, Region.binds .any e = true → e.on ≠ i := fun e he hb heq => by
        have h1 := hall e he hb
        have h0 := (mem_ready.1 hr).1
        rw [heq] at h1
        rcases Nat.lt_or_ge i listed.size with h' | h'
        · simp [h'] at h0 h1; rw [h0] at h1; cases h1
        · simp [Array.getElem?_eq_none h'] at h1
      rcases h1 with h1 | h1
      · have h2 := stepR_put hoj (hfree j oj hoj hji hjun hnot) (fun cs b => hsel i oi cs b hi) (fun cs b => hsel j oj cs b hoj) hw hy h1
        have hfree' : ∀ k ok', ops[k]? = some ok' → k ≠ i → (listed.setIfInBounds j true).getD k true = false →
            (∀ e ∈ ok'.after, Region.binds .any e = true → e.on ≠ i) → oi.apart ops ok' = true := fun k ok' hk hki hun hno => by
          refine hfree k ok' hk hki ?_ hno
          by_cases hjk : j = k
          · subst hjk; exact hjun
          · rw [getD_set_ne true hjk] at hun; exact hun
        refine .inl (stepR_mono (fun a' w' h3 => ih (listed.setIfInBounds j true) a' w' hfree' (ready_mono hr (Ne.symm hji)) h3.2.1 h3.1 ?_) h2)
        rw [Array.setIfInBounds_comm _ _ hji]
        exact h3.2.2
      · exact .inr (panS_put hoj (hfree j oj hoj hji hjun hnot) (fun cs b => hsel j oj cs b hoj) h1)
end
/-- What is left of a region, these done; calls may panic. -/
structure AP (P : Program) (ops : Array Oper) (ok : World → Prop) (Q : Exit → Act → World → Prop) (n : Nat) (D : List Deferred) (M : Slots) (f : Nat) (listed : Array Bool) (w : World) : Prop where
  h : ∀ a, Fr n D M a → AnyP P ops ok Q f listed a w
section
variable {P : Program} {l : List Oper} {ops : Array Oper} {Q : Exit → Act → World → Prop} {ok : World → Prop} {r : Option Nat} {n f : Nat} {D : List Deferred} {M : Slots} {w w' : World} {listed : Array Bool} {o : Oper} {v : Value}
theorem CC.freeP {id : Nat} (ok : World → Prop) (hm : P.follows .mixedOrders = true) (hB : selB l = true) (h : AP P l.toArray ok Q n D M l.length (Array.replicate l.length false) w.drew) : CC r P Q n D M (.region id l.toArray true) w := CC.mk fun a F => by
  have hdf : ∀ (j : Nat) (o : Oper), l.toArray[j]? = some o → dfB o.op = false := fun j o ho => by
    have := List.all_eq_true.1 hB o (by simpa using List.mem_of_getElem? (by simpa using ho))
    simpa using this
  refine wpIn_region_any hm (wpAny_of_P (ok := ok) hdf _ _ _ _ ?_)
  simpa using h.h a F
theorem AP.pure (i : Nat) (hi : ops[i]? = some o) (hw : ok w) (hB : rfB ops listed i = true) (hr : ∀ w', ok w' → Runs P n D M o w' (.value v) w') (hd : dstB n o.dst = true) (hg : wantB ops M o.guard = some true) (k : AP P ops ok Q n D (putM M o.dst v) f (listed.setIfInBounds i true) w) : AP P ops ok Q n D M (f + 1) listed w := AP.mk fun a F => by
  simp only [rfB, Bool.and_eq_true] at hB
  exact pure_firstP hi (Region.noSelect_spec hB.2) f listed a w (Region.free_spec hi hB.1.2) (by simpa using hB.1.1) hw (.inl ⟨F.want hg, fun w' hw' => .inl (hr w' hw' a F)⟩) (k.h _ (F.put _ _ hd))
theorem AP.pureC {g : FuncId} {args : Array Value} (i : Nat) (hi : ops[i]? = some o) (hw : ok w) (hB : rfB ops listed i = true) (hr : ∀ w', Runs P n D M o w' (.enter g args) w') (hc : ∀ w', ok w' → Calls P g args w' fun e w'' => e = .returned v ∧ w' = w'') (hd : dstB n o.dst = true) (hg : wantB ops M o.guard = some true) (k : AP P ops ok Q n D (putM M o.dst v) f (listed.setIfInBounds i true) w) : AP P ops ok Q n D M (f + 1) listed w := AP.mk fun a F => by
  simp only [rfB, Bool.and_eq_true] at hB
  exact pure_firstP hi (Region.noSelect_spec hB.2) f listed a w (Region.free_spec hi hB.1.2) (by simpa using hB.1.1) hw (.inl ⟨F.want hg, fun w' hw' => .inr ⟨g, args, hr w' a F, (hc w' hw').mono fun _ _ h => ⟨h.1, h.2.symm⟩⟩⟩) (k.h _ (F.put _ _ hd))
/-- A call that comes next, and panics. -/
theorem AP.pan {g : FuncId} {args : Array Value} {R : Ending → World → Prop} (i : Nat) (hrd : Region.ready .any ops listed = [i]) (hi : ops[i]? = some o) (hdf : dfB o.op = false) (hr : Runs P n D M o w (.enter g args) w) (hg : wantB ops M o.guard = some true) (hc : Calls P g args w R)
    (k : ∀ e w', R e w' → ∃ ch, e = .panicked ch ∧ EE Q n D (fun _ => none) (.panic ch) w') : AP P ops ok Q n D M (f + 1) listed w := AP.mk fun a F =>
  ⟨fun h => absurd (h.symm.trans hrd) (by simp), fun j hj => by
    rw [hrd] at hj
    simp only [List.mem_singleton] at hj
    subst hj
    refine .inr ⟨o, g, args, R, hi, hdf, F.want hg, hr a F, hc, fun e w'' hR => ?_⟩
    obtain ⟨ch, he, hk⟩ := k e w'' hR
    exact ⟨ch, he, fun a' ha hs => hk.h a' ⟨hs.trans F.size, ha.trans F.defers, fun s v h => by cases h⟩⟩⟩
end
set_option linter.unusedVariables false
set_option linter.unusedSimpArgs false
set_option maxRecDepth 100000
set_option maxHeartbeats 8000000
theorem R.toArr {P : Program} {n : Nat} {D : List Deferred} {M : Slots} {w w' : World} {o : Oper} {x : Operand} {t : TypeId} {vx v : Value} (ho : o.op = .sliceToArrayPointer t x) (hx : evM M x = some vx) (hr : (Instr.arrayAt t vx).run P w = .ok v w') : Runs P n D M o w (.value v) w' := fun a F => by
  unfold execOp; simp only [ho, F.ev hx, Sem.run_bind, Sem.run_pure, hr, Result.andThen_ok]
theorem I.arrU (a : Option Addr) (cap : Nat) (w : World) : (Instr.arrayAt 106 (.slice a 10 cap)).run Tryz.prog w = .ok (.pointer a) w := by kernel_rfl
/-- Words that lie somewhere. -/
structure WdsAt (X : World) (bk off : Nat) (ws : List Nat) : Prop where
  cells : ∀ (j x : Nat), ws[j]? = some x → X.cell? ⟨bk, off + j, none⟩ = some (.int .u64 (x : Int))
  lt : bk < X.heap.size
theorem WdsAt.part {X : World} {bk off : Nat} {ws : List Nat} (h : WdsAt X bk off ws) (lo m : Nat) (hl : lo + m ≤ ws.length) : Cells X ⟨bk, off + lo, none⟩ (ints .u64 ((ws.drop lo).take m)) := fun j v hj => by
  rw [add_plain]
  simp only [ints, List.getElem?_map, List.getElem?_take] at hj
  split at hj
  · rw [List.getElem?_drop] at hj
    cases hx : ws[lo + j]? with
    | none => rw [hx] at hj; cases hj
    | some x =>
      rw [hx] at hj
      simp only [Option.map_some, Option.some.injEq] at hj
      rw [← hj, show off + lo + j = off + (lo + j) by omega]
      exact h.cells _ _ hx
  · cases hj
theorem WdsAt.reads {X : World} {bk off : Nat} {ws : List Nat} (h : WdsAt X bk off ws) (lo m c : Nat) (hl : lo + m ≤ ws.length) (hc : m ≤ c) : Reads X (.slice (some ⟨bk, off + lo, none⟩) m c) (ints .u64 ((ws.drop lo).take m)) := by
  have hlen : (ints .u64 ((ws.drop lo).take m)).length = m := by simp [ints]; omega
  have hp := h.part lo m hl
  refine ⟨some ⟨bk, off + lo, none⟩, c, by rw [hlen], by rw [hlen]; exact hc, fun _ => ⟨bk, off + lo, rfl, h.lt, fun j hj => ?_⟩⟩
  have := hp j _ (List.getElem?_eq_getElem hj)
  rw [add_plain] at this
  rw [this, List.getElem?_eq_getElem hj]
abbrev KU (w : World) (gu : Nat) (i : Nat) : Prop := i < w.heap.size ∧ i ≠ gu
def wsZ (ws : List Nat) : List Int := ((ws.drop 2).take 10).map fun n : Nat => (n : Int)
theorem wsZ_ints (ws : List Nat) : ints .u64 ((ws.drop 2).take 10) = intsZ .u64 (wsZ ws) := by
  unfold ints intsZ wsZ
  rw [List.map_map]
  rfl
theorem wsZ_len {ws : List Nat} (h : ws.length = 16) : (wsZ ws).length = 10 := by simp [wsZ, h]
theorem wsZ_bnd {ws : List Nat} (h : ∀ x ∈ ws, x < 18446744073709551616) (i : Nat) (z : Int) (hz : (wsZ ws)[i]? = some z) : 0 ≤ z ∧ z < 18446744073709551616 := by
  obtain ⟨n, hn, rfl⟩ := List.mem_map.1 (List.mem_of_getElem? hz)
  have := h n (List.mem_of_mem_drop (List.mem_of_mem_take hn))
  omega
section
variable (gu bk off cap : Nat) (ws : List Nat) (k l z : Int) (a : Value) (r p : Int) (t : Bs) (w : World)
theorem rd0_any (v : Value) (hv : ∃ x n c, v = .slice x n c) : Calls Tryz.prog 99 #[.pointer (some ⟨gu, 0, none⟩), v] w fun e w' => e = .returned (.tuple #[]) ∧ w = w' := by
  obtain ⟨x, n, c, rfl⟩ := hv
  refine X.fn Tryz.func99 rfl (n := 4) rfl rfl ?_
  refine ZK ?_; refine EE.end _ rfl rfl ?_
  exact ⟨rfl, rfl⟩
theorem rd2_T (hu : RowL w gu 145 (inL k l z a r p t)) (hW : ∀ X, Kept (KU w gu) w X → WdsAt X bk off ws) (x2 x3 : Nat) (h2 : ws[2]? = some x2) (h3 : ws[3]? = some x3) (hx : x2 ≤ 65536 ∧ x3 ≤ 65536) (hcap : 16 ≤ cap) : Calls Tryz.prog 108 #[.pointer (some ⟨gu, 0, none⟩), .slice (some ⟨bk, off, none⟩) 16 cap] w fun e w' => e = .returned (.tuple #[]) ∧ RowL w' gu 145 (inL k l z a (x2 : Int) (x3 : Int) t) ∧ Kept (KU w gu) w w' := by
  have hkk := Kept.refl (KU w gu) w
  have hlu := hu.lt
  have c2 := (hW w hkk).cells _ _ h2
  have c3 := (hW w hkk).cells _ _ h3
  refine X.fn Tryz.func108 rfl (n := 20) rfl rfl ?_
  refine CC.join (fun l_ W10 => l_ = [] ∧ (Kept (KU w gu) w W10) ∧ (RowL W10 gu 145 [Value.int IntKind.i64 k, Value.int IntKind.i64 l, Value.int IntKind.i64 z, a, Value.int IntKind.i64 ↑x2, Value.int IntKind.i64 ↑x3, strV t]) ∧ (w.heap.size ≤ W10.heap.size)) (fun J14 => ?_) ?restJ14
  case' restJ14 =>
    clear hkk
    clear hu
    rintro _ W10 ⟨rfl, hkk, hu, z13⟩
  refine EE.end _ rfl rfl ?_
  exact ⟨rfl, hu, hkk⟩
  refine CC.freeZ (fun W_ j => j < W_.heap.size ∧ (j ≠ gu)) (by kernel_rfl) (by kernel_rfl) (fun W16 b15 z17 => ?_)
  replace hu := hu.up b15; replace hkk := Zh hkk b15; have y18 := hkk.size; replace c2 := cell_up c2 b15; replace c3 := cell_up c3 b15
  have hok : Kept (fun j => j < W16.heap.size ∧ (j ≠ gu)) W16 W16 := Kept.refl _ _
  refine AA.pure 0 rfl hok (by kernel_rfl) (fun w' b' => R.move rfl rfl) rfl rfl ?_
  refine AA.pure 1 rfl hok (by kernel_rfl) (fun w' b' => R.move rfl rfl) rfl rfl ?_
  refine AA.pure 2 rfl hok (by kernel_rfl) (fun w' b' => R.move rfl rfl) rfl rfl ?_
  refine AA.pure 3 rfl hok (by kernel_rfl) (fun w' b' => R.index rfl rfl rfl (I.ixS1c rfl rfl (by omega))) rfl rfl ?_
  refine AA.pure 6 rfl hok (by kernel_rfl) (fun w' b' => R.move rfl rfl) rfl rfl ?_
  refine AA.pure 7 rfl hok (by kernel_rfl) (fun w' b' => R.index rfl rfl rfl (I.ixS1c rfl rfl (by omega))) rfl rfl ?_
  refine AA.two 4 8 (by kernel_rfl) ?_ ?_
  refine SR.val rfl (R.load rfl rfl (I.ld1 rfl (by assumption))) rfl rfl hok ?_
  refine AA.pureC 5 rfl hok (by kernel_rfl) (fun w' => (R.call rfl rfl rfl)) (fun w' b' => number_T _ w' (by first | assumption | omega)) rfl rfl ?_
  refine AA.one 8 (by kernel_rfl) ?_
  refine SR.val rfl (R.load rfl rfl (I.ld1 rfl (by assumption))) rfl rfl hok ?_
  refine AA.pureC 9 rfl hok (by kernel_rfl) (fun w' => (R.call rfl rfl rfl)) (fun w' b' => number_T _ w' (by first | assumption | omega)) rfl rfl ?_
  refine AA.pure 10 rfl hok (by kernel_rfl) (fun w' b' => R.nil rfl rfl) rfl rfl ?_
  refine AA.pure 11 rfl hok (by kernel_rfl) (fun w' b' => R.field rfl rfl (I.fld rfl)) rfl rfl ?_
  refine AA.pure 12 rfl hok (by kernel_rfl) (fun w' b' => R.field rfl rfl (I.fld rfl)) rfl rfl ?_
  refine AA.one 13 (by kernel_rfl) ?_
  refine ZR.store rfl rfl rfl rfl rfl hu (by exact Nat.le_of_ble_eq_true rfl) rfl rfl rfl rfl ?_
  intro W20 r21 b19 z22
  have hlb19 := hu.lt
  replace r21 : RowL W20 _ 145 [.int .i64 k, .int .i64 l, .int .i64 z, a, .int .i64 ↑x2, .int .i64 p, strV t] := r21
  clear hu
  replace hkk := Zo hkk b19; replace hok := Zo hok b19
  have hu := r21
  clear r21
  refine ⟨hok, ?_⟩
  refine AA.pure 14 rfl hok (by kernel_rfl) (fun w' b' => R.nil rfl rfl) rfl rfl ?_
  refine AA.pure 15 rfl hok (by kernel_rfl) (fun w' b' => R.field rfl rfl (I.fld rfl)) rfl rfl ?_
  refine AA.pure 16 rfl hok (by kernel_rfl) (fun w' b' => R.field rfl rfl (I.fld rfl)) rfl rfl ?_
  refine AA.one 17 (by kernel_rfl) ?_
  refine ZR.store rfl rfl rfl rfl rfl hu (by exact Nat.le_of_ble_eq_true rfl) rfl rfl rfl rfl ?_
  intro W24 r25 b23 z26
  have hlb23 := hu.lt
  replace r25 : RowL W24 _ 145 [.int .i64 k, .int .i64 l, .int .i64 z, a, .int .i64 ↑x2, .int .i64 ↑x3, strV t] := r25
  clear hu
  replace hkk := Zo hkk b23; replace hok := Zo hok b23
  have hu := r25
  clear r25
  refine ⟨hok, ?_⟩
  refine AA.done rfl ?_
  clear hok
  refine EE.end _ rfl rfl ?_
  exact ⟨rfl, hu, hkk⟩
  refine SR.val rfl (R.load rfl rfl (I.ld1 rfl (by assumption))) rfl rfl hok ?_
  refine AA.one 4 (by kernel_rfl) ?_
  refine SR.val rfl (R.load rfl rfl (I.ld1 rfl (by assumption))) rfl rfl hok ?_
  refine AA.pureC 5 rfl hok (by kernel_rfl) (fun w' => (R.call rfl rfl rfl)) (fun w' b' => number_T _ w' (by first | assumption | omega)) rfl rfl ?_
  refine AA.pureC 9 rfl hok (by kernel_rfl) (fun w' => (R.call rfl rfl rfl)) (fun w' b' => number_T _ w' (by first | assumption | omega)) rfl rfl ?_
  refine AA.pure 10 rfl hok (by kernel_rfl) (fun w' b' => R.nil rfl rfl) rfl rfl ?_
  refine AA.pure 11 rfl hok (by kernel_rfl) (fun w' b' => R.field rfl rfl (I.fld rfl)) rfl rfl ?_
  refine AA.pure 12 rfl hok (by kernel_rfl) (fun w' b' => R.field rfl rfl (I.fld rfl)) rfl rfl ?_
  refine AA.one 13 (by kernel_rfl) ?_
  refine ZR.store rfl rfl rfl rfl rfl hu (by exact Nat.le_of_ble_eq_true rfl) rfl rfl rfl rfl ?_
  intro W28 r29 b27 z30
  have hlb27 := hu.lt
  replace r29 : RowL W28 _ 145 [.int .i64 k, .int .i64 l, .int .i64 z, a, .int .i64 ↑x2, .int .i64 p, strV t] := r29
  clear hu
  replace hkk := Zo hkk b27; replace hok := Zo hok b27
  have hu := r29
  clear r29
  refine ⟨hok, ?_⟩
  refine AA.pure 14 rfl hok (by kernel_rfl) (fun w' b' => R.nil rfl rfl) rfl rfl ?_
  refine AA.pure 15 rfl hok (by kernel_rfl) (fun w' b' => R.field rfl rfl (I.fld rfl)) rfl rfl ?_
  refine AA.pure 16 rfl hok (by kernel_rfl) (fun w' b' => R.field rfl rfl (I.fld rfl)) rfl rfl ?_
  refine AA.one 17 (by kernel_rfl) ?_
  refine ZR.store rfl rfl rfl rfl rfl hu (by exact Nat.le_of_ble_eq_true rfl) rfl rfl rfl rfl ?_
  intro W32 r33 b31 z34
  have hlb31 := hu.lt
  replace r33 : RowL W32 _ 145 [.int .i64 k, .int .i64 l, .int .i64 z, a, .int .i64 ↑x2, .int .i64 ↑x3, strV t] := r33
  clear hu
  replace hkk := Zo hkk b31; replace hok := Zo hok b31
  have hu := r33
  clear r33
  refine ⟨hok, ?_⟩
  refine AA.done rfl ?_
  clear hok
  refine EE.end _ rfl rfl ?_
  exact ⟨rfl, hu, hkk⟩
theorem rd2_F (hu : RowL w gu 145 (inL k l z a r p t)) (hW : ∀ X, Kept (KU w gu) w X → WdsAt X bk off ws) (x2 x3 : Nat) (h2 : ws[2]? = some x2) (h3 : ws[3]? = some x3) (hx : 65536 < x2 ∨ 65536 < x3) (hcap : 16 ≤ cap) : Calls Tryz.prog 108 #[.pointer (some ⟨gu, 0, none⟩), .slice (some ⟨bk, off, none⟩) 16 cap] w fun e w' => e = .panicked (chain1 refV) ∧ Kept (KU w gu) w w' := by
  have hkk := Kept.refl (KU w gu) w
  have hlu := hu.lt
  have c2 := (hW w hkk).cells _ _ h2
  have c3 := (hW w hkk).cells _ _ h3
  have l2 := (List.getElem?_eq_some_iff.1 h2).1
  refine X.fnP Tryz.func108 rfl (n := 20) rfl rfl ?_
  refine CC.freeP (fun X => Kept (KU w gu) w X) (by kernel_rfl) rfl ?_
  have hok : Kept (KU w gu) w w.drew := hkk.trans (bkept (below_drew (w := w)) (fun j h => h.1))
  clear hkk
  refine AP.pure 0 rfl hok (by kernel_rfl) (fun w' hw' => R.move rfl rfl) rfl rfl ?_
  refine AP.pure 1 rfl hok (by kernel_rfl) (fun w' hw' => R.move rfl rfl) rfl rfl ?_
  refine AP.pure 2 rfl hok (by kernel_rfl) (fun w' hw' => R.move rfl rfl) rfl rfl ?_
  refine AP.pure 3 rfl hok (by kernel_rfl) (fun w' hw' => R.index rfl rfl rfl (I.ixS rfl (by decide))) rfl rfl ?_
  refine AP.pure 4 rfl hok (by kernel_rfl) (fun w' hw' => R.load rfl rfl (I.ld1 rfl ((hW w' hw').cells _ _ h2))) rfl rfl ?_
  refine AP.pure 6 rfl hok (by kernel_rfl) (fun w' hw' => R.move rfl rfl) rfl rfl ?_
  refine AP.pure 7 rfl hok (by kernel_rfl) (fun w' hw' => R.index rfl rfl rfl (I.ixS rfl (by decide))) rfl rfl ?_
  refine AP.pure 8 rfl hok (by kernel_rfl) (fun w' hw' => R.load rfl rfl (I.ld1 rfl ((hW w' hw').cells _ _ h3))) rfl rfl ?_
  by_cases h4 : 65536 < x2
  · refine AP.pan 5 (by kernel_rfl) rfl rfl (R.call rfl rfl rfl) rfl (number_F x2 _ h4) ?_
    rintro e w' ⟨rfl, rfl⟩
    exact ⟨_, rfl, EE.panM ⟨rfl, hok⟩⟩
  · refine AP.pureC 5 rfl hok (by kernel_rfl) (fun w' => R.call rfl rfl rfl) (fun w' hw' => number_T x2 w' (by omega)) rfl rfl ?_
    refine AP.pan 9 (by kernel_rfl) rfl rfl (R.call rfl rfl rfl) rfl (number_F x3 _ (by omega)) ?_
    rintro e w' ⟨rfl, rfl⟩
    exact ⟨_, rfl, EE.panM ⟨rfl, hok⟩⟩
end
theorem readsT_far {α : Type} {enc : α → List Value} {k : Nat} {K : Nat → Prop} {w w' : World} {v : Value} {ts : List α} (h : ReadsT enc k w v ts) (hk : Kept K w w') (hb : ∀ b off n c, v = .slice (some ⟨b, off, none⟩) n c → b < w.heap.size → K b) : ReadsT enc k w' v ts := by
  have h0 := h
  obtain ⟨a, cap, e, hc, h⟩ := h
  rcases Classical.em (ts = []) with hne | hne
  · subst hne
    exact ⟨a, cap, e, hc, fun h => (h rfl).elim⟩
  · obtain ⟨b, off, ha, hlt, _⟩ := h hne
    subst ha
    subst e
    exact h0.kp hk (hb _ _ _ _ rfl hlt)
theorem ownsT_ge {α : Type} {enc : α → List Value} {k : Nat} {w : World} {base e : Nat} {v : Value} {ts : List α} (h : OwnsT enc k w base e v ts) : ∀ b off n c, v = .slice (some ⟨b, off, none⟩) n c → base ≤ b := by
  intro b off n c hv
  rcases h.2 with ⟨e1, _⟩ | ⟨g, cap, cur, e1, hbg, _⟩
  · rw [e1] at hv; cases hv
  · rw [e1] at hv; cases hv; exact hbg
end Go.Proofs.YtaeaokimhbbnfaaGreatDoor
