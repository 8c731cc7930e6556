/- bitmap: New, Words, Copy, Left; slices.Clone. -/
import Derived.Test.YtojoaplbgcdapaaSets
import Derived.Test.YtojoaplbgcdapaaTNew
namespace Go.Proofs.Ytojoaplbgcdapaa
set_option linter.unusedVariables false
set_option linter.unusedSimpArgs false
open Go.RowKit Go.Shelf

theorem SR.box {P : Program} {ops : Array Oper} {ok : World → Prop} {n i : Nat} {D : List Deferred} {M : Slots} {w : World} {o : Oper} {K : Slots → World → Prop} {t : TypeId} {v : Value} {x : Operand} (cs : List Value) (hi : ops[i]? = some o) (ho : o.op = .box t x) (hx : evM M x = some v) (hcs : v.cells = cs.toArray) (hd : dstB n o.dst = true) (hg : wantB ops M o.guard = some true)
    (c : ∀ w1 g, w.heap.size = g → RowL w1 g t cs → w1.heap.size = g + 1 → Below w.heap.size w w1 → ok w1 ∧ K (putM M o.dst (.pointer (some ⟨g, 0, none⟩))) w1) : SR P ops ok i K n D M w :=
  have h := c _ _ rfl (RowL.new w t cs) (by simp) (Below.alloc0 w _)
  SR.val hi (R.box ho hx (run_box hcs)) hd hg h.1 h.2
theorem info_parts_t {P : Program} {T e : TypeId} {z : Value} {k bytes : Nat} (hu : P.underlying T = some (.slice e)) (h : (P.info? e).map (fun i => (i.zero, i.size, i.bytes)) = some (some z, k, bytes)) (hz : z.cells.size = k) : ElT P T e z k bytes := by
  refine ⟨hu, ?_, hz⟩
  cases hi : P.info? e with
  | none => rw [hi] at h; cases h
  | some i =>
    rw [hi] at h
    simp only [Option.map_some, Option.some.injEq, Prod.mk.injEq] at h
    exact ⟨i, rfl, h.1, h.2.1, h.2.2⟩
theorem Try.infoU : (Try.prog.info? 61).map (fun i => (i.zero, i.size, i.bytes)) = some (some (.int .u64 0), 1, 8) := by kernel_rfl
theorem ElU : ElT Try.prog 22 61 (.int .u64 0) 1 8 := info_parts_t Try.underlying22 Try.infoU rfl
theorem ElU1 : El Try.prog 22 61 (.int .u64 0) 8 := ⟨Try.underlying22, info_parts Try.infoU, rfl⟩

theorem uclone_any (v : Value) (xs : List Nat) (w : World) (ha : ReadsT uE 1 w v xs) (hl : xs.length ≤ 1048576) :
    Calls Try.prog 30 #[v] w fun e w' => ∃ v', e = .returned v' ∧ OwnsT uE 1 w' w.heap.size 61 v' xs ∧ Below w.heap.size w w' := by
  obtain ⟨a, cap, rfl, hc⟩ := ha.form rfl
  refine X.fn Try.func30 rfl (n := 8) rfl rfl ?_
  (refine CC.seq ?_; refine CC.region ?_; refine LL.val (R.assign rfl rfl) rfl rfl rfl ?_; refine LL.nilS ?_; refine CC.seq ?_; refine CC.seq ?_; refine CC.region ?_; refine LL.val (R.move rfl rfl) rfl rfl rfl ?_; refine LL.val (R.eqSl rfl rfl rfl rfl rfl) rfl rfl rfl ?_; refine LL.nilS ?_)
  cases a with
  | none =>
    have hx : xs = [] := by
      obtain ⟨a', cap', e, _, h⟩ := ha
      cases e
      rcases Classical.em (xs = []) with h0 | h0
      · exact h0
      · obtain ⟨_, _, h1, _⟩ := h h0
        cases h1
    subst hx
    (refine CC.yes rfl ?_; refine CC.seq ?_; refine CC.region ?_; refine LL.val (R.assign rfl rfl) rfl rfl rfl ?_; refine LL.nilS ?_; refine CC.ret ?_; refine EE.thenR ?_)
    refine EE.ret _ rfl rfl ?_
    exact ⟨_, rfl, OwnsT.none _ _ _, Below.refl _ _⟩
  | some p =>
    (refine CC.no rfl ?_; refine CC.skip ?_; refine EE.thenN ?_; refine CC.seq ?_; refine CC.region ?_)
    refine LL.lit (e := 61) [] 0 rfl rfl (fun _ => by kernel_rfl) rfl rfl ?_
    intro w1 g1 e1 r1 z1 b1
    have o1 : OwnsT uE 1 w1 w.heap.size 61 (.slice (some ⟨g1, 0, none⟩) 0 0) [] := RowL.ownsT (ts := []) uEnc r1 (by omega) (by simp [maxLen])
    (refine LL.val (R.move rfl rfl) rfl rfl rfl ?_)
    refine LL.append0 rfl rfl uEnc ElU o1 (ha.below b1) (by simp [maxLen]; omega) (by omega) b1.size rfl rfl ?_
    intro v2 w2 o2 b2
    (refine LL.val (R.assign rfl rfl) rfl rfl rfl ?_; refine LL.nilS ?_; refine CC.ret ?_)
    refine EE.ret _ rfl rfl ?_
    exact ⟨v2, rfl, o2, b1.trans (b2.mono b1.size)⟩

theorem bnew_bad (n : Int) (w : World) (h : n < 1 ∨ 65536 < n) : Calls Try.prog 16 #[.int .i64 n] w fun e w' => e = .returned (.tuple #[.pointer none, .int .i64 2]) ∧ w = w' := by
  refine X.fn Try.func16 rfl (n := 17) rfl rfl ?_
  (refine CC.seq ?_; refine CC.region ?_; refine LL.val (R.assign rfl rfl) rfl rfl rfl ?_; refine LL.val (R.assign rfl rfl) rfl rfl rfl ?_; refine LL.nilS ?_; refine CC.seq ?_; refine CC.seq ?_; refine CC.region ?_; refine LL.val (R.move rfl rfl) rfl rfl rfl ?_)
  rcases h with h | h
  · (refine LL.val (R.ltT rfl rfl rfl (by omega)) rfl rfl rfl ?_; refine LL.val (R.move rfl rfl) rfl rfl rfl ?_; refine LL.skip rfl rfl ?_; refine LL.skip rfl rfl ?_; refine LL.val (R.pick rfl rfl rfl) rfl rfl rfl ?_; refine LL.nilS ?_; refine CC.yes rfl ?_; refine CC.seq ?_; refine CC.region ?_; refine LL.val (R.assign rfl rfl) rfl rfl rfl ?_; refine LL.val (R.assign rfl rfl) rfl rfl rfl ?_; refine LL.nilS ?_; refine CC.ret ?_; refine EE.thenR ?_)
    refine EE.ret _ rfl rfl ?_
    exact ⟨rfl, rfl⟩
  · (refine LL.val (R.ltF rfl rfl rfl (by omega)) rfl rfl rfl ?_; refine LL.val (R.move rfl rfl) rfl rfl rfl ?_; refine LL.val (R.move rfl rfl) rfl rfl rfl ?_; refine LL.val (R.gtT rfl rfl rfl (by omega)) rfl rfl rfl ?_; refine LL.val (R.pick rfl rfl rfl) rfl rfl rfl ?_; refine LL.nilS ?_; refine CC.yes rfl ?_; refine CC.seq ?_; refine CC.region ?_; refine LL.val (R.assign rfl rfl) rfl rfl rfl ?_; refine LL.val (R.assign rfl rfl) rfl rfl rfl ?_; refine LL.nilS ?_; refine CC.ret ?_; refine EE.thenR ?_)
    refine EE.ret _ rfl rfl ?_
    exact ⟨rfl, rfl⟩
theorem wb_zero (n i : Nat) : wb (List.replicate n 0) i = false := by
  unfold wb
  rw [List.getElem?_replicate]
  split <;> simp
theorem bnew_any (n : Nat) (w : World) (h : 1 ≤ n ∧ n ≤ 65536) : Calls Try.prog 16 #[.int .i64 (n : Int)] w fun e w' => ∃ g v, e = .returned (.tuple #[.pointer (some ⟨g, 0, none⟩), .int .i64 0]) ∧ BmAt w' (· < w.heap.size) g v n (List.replicate ((n + 63) / 64) 0) ∧ w.heap.size ≤ g ∧ Below w.heap.size w w' := by
  refine X.fn Try.func16 rfl (n := 17) rfl rfl ?_
  (refine CC.seq ?_; refine CC.region ?_; refine LL.val (R.assign rfl rfl) rfl rfl rfl ?_; refine LL.val (R.assign rfl rfl) rfl rfl rfl ?_; refine LL.nilS ?_; refine CC.seq ?_; refine CC.seq ?_; refine CC.region ?_; refine LL.val (R.move rfl rfl) rfl rfl rfl ?_; refine LL.val (R.ltF rfl rfl rfl (by omega)) rfl rfl rfl ?_; refine LL.val (R.move rfl rfl) rfl rfl rfl ?_; refine LL.val (R.move rfl rfl) rfl rfl rfl ?_; refine LL.val (R.gtF rfl rfl rfl (by omega)) rfl rfl rfl ?_; refine LL.val (R.pick rfl rfl rfl) rfl rfl rfl ?_; refine LL.nilS ?_; refine CC.no rfl ?_; refine CC.skip ?_; refine EE.thenN ?_; refine CC.seq ?_; refine CC.region ?_; refine LL.val (R.move rfl rfl) rfl rfl rfl ?_)
  refine LL.call (R.call rfl rfl rfl) rfl rfl rfl (wordsFor_any n w h.2) ?_
  rintro e w1 ⟨rfl, rfl⟩
  refine ⟨_, rfl, ?_⟩
  obtain ⟨m, hm⟩ : ∃ m, (n + 63) / 64 = m := ⟨_, rfl⟩
  rw [hm]
  have hml : m ≤ 1024 := by omega
  refine LL.make ElU1 rfl rfl rfl (Nat.le_refl _) (by omega) (by omega) rfl rfl ?_
  intro w1 l e1 r1 z1 b1
  have er : List.replicate m (Value.int .u64 0) = (List.replicate m 0).flatMap uE := by rw [flat_u]; simp [ints]
  rw [er] at r1
  have o1 : OwnsT uE 1 w1 w.heap.size 61 (.slice (some ⟨l, 0, none⟩) m m) (List.replicate m 0) := by
    have := RowL.ownsT (base := w.heap.size) uEnc r1 (by omega) (by simp [maxLen]; omega)
    simpa using this
  refine LL.val (R.buildV rfl rfl (v := .agg #[.slice (some ⟨l, 0, none⟩) m m]) (fun _ => by kernel_rfl)) rfl rfl rfl ?_
  (refine LL.val (R.move rfl rfl) rfl rfl rfl ?_)
  refine LL.val (R.buildV rfl rfl (v := .agg #[.slice (some ⟨l, 0, none⟩) m m, .int .i64 (n : Int)]) (fun _ => by kernel_rfl)) rfl rfl rfl ?_
  refine LL.box [.slice (some ⟨l, 0, none⟩) m m, .int .i64 (n : Int)] rfl rfl rfl rfl rfl ?_
  intro w2 g e2 r2 z2 b2
  have q2 : Below w.heap.size w w2 := b1.trans (b2.mono b1.size)
  have y1 := b1.size
  (refine LL.val (R.assign rfl rfl) rfl rfl rfl ?_; refine LL.val (R.assign rfl rfl) rfl rfl rfl ?_; refine LL.nilS ?_; refine CC.ret ?_)
  refine EE.ret _ rfl rfl ?_
  refine ⟨g, .slice (some ⟨l, 0, none⟩) m m, rfl, ⟨r2, (o1.below b2).lower (by omega), ?_, h.1, h.2, by rw [List.length_replicate, hm], ?_, fun i _ => wb_zero m i, fun j hj => ?_, by omega, fun j hj => ?_⟩, by omega, q2⟩
  · simp only [Value.ownBlock]
    intro e
    cases e
    omega
  · intro x hx
    rw [List.eq_of_mem_replicate hx]
    decide
  · have := q2.size
    omega
  · simp only [Value.ownBlock]
    intro e
    cases e
    omega

section
variable {K : Nat → Prop} {g bits : Nat} {v : Value} {ws : List Nat}
theorem bwords_made (w : World) (h : BmAt w K g v bits ws) : Calls Try.prog 12 #[.pointer (some ⟨g, 0, none⟩)] w fun e w' => ∃ v', e = .returned v' ∧ OwnsT uE 1 w' w.heap.size 61 v' ws ∧ Below w.heap.size w w' := by
  have c0 : w.cell? ⟨g, 0, none⟩ = some v := h.row.cell rfl
  have hlen := h.len
  have hhi := h.hi
  refine X.fn Try.func12 rfl (n := 11) rfl rfl ?_
  (refine CC.seq ?_; refine CC.region ?_; refine LL.val (R.assign rfl rfl) rfl rfl rfl ?_; refine LL.nilS ?_; refine CC.seq ?_; refine CC.seq ?_; refine CC.region ?_; refine LL.val (R.move rfl rfl) rfl rfl rfl ?_)
  refine LL.call (R.call rfl rfl rfl) rfl rfl rfl (bnone_made _ h) ?_
  rintro e w1 ⟨rfl, rfl⟩
  refine ⟨_, rfl, ?_⟩
  (refine LL.nilS ?_; refine CC.no rfl ?_; refine CC.skip ?_; refine EE.thenN ?_; refine CC.seq ?_; refine CC.region ?_; refine LL.val (R.move rfl rfl) rfl rfl rfl ?_; refine LL.val (R.nil rfl rfl) rfl rfl rfl ?_; refine LL.val (R.field rfl rfl (I.fld rfl)) rfl rfl rfl ?_; refine LL.val (R.field rfl rfl (I.fld rfl)) rfl rfl rfl ?_; refine LL.val (R.load rfl rfl (I.ld1 rfl (by assumption))) rfl rfl rfl ?_)
  refine LL.call (R.call rfl rfl rfl) rfl rfl rfl (uclone_any v ws w (h.list.reads uEnc) (by omega)) ?_
  rintro e w2 ⟨v2, rfl, o2, b2⟩
  refine ⟨_, rfl, ?_⟩
  (refine LL.val (R.assign rfl rfl) rfl rfl rfl ?_; refine LL.nilS ?_; refine CC.ret ?_)
  refine EE.ret _ rfl rfl ?_
  exact ⟨v2, rfl, o2, b2⟩
end
theorem bwords_none (p : Option Addr) (w : World) (h : Calls Try.prog 29 #[.pointer p] w fun e w' => e = .returned (.bool true) ∧ w = w') : Calls Try.prog 12 #[.pointer p] w fun e w' => e = .returned (.slice none 0 0) ∧ w = w' := by
  refine X.fn Try.func12 rfl (n := 11) rfl rfl ?_
  (refine CC.seq ?_; refine CC.region ?_; refine LL.val (R.assign rfl rfl) rfl rfl rfl ?_; refine LL.nilS ?_; refine CC.seq ?_; refine CC.seq ?_; refine CC.region ?_; refine LL.val (R.move rfl rfl) rfl rfl rfl ?_)
  refine LL.call (R.call rfl rfl rfl) rfl rfl rfl h ?_
  rintro e w1 ⟨rfl, rfl⟩
  refine ⟨_, rfl, ?_⟩
  (refine LL.nilS ?_; refine CC.yes rfl ?_; refine CC.seq ?_; refine CC.region ?_; refine LL.val (R.assign rfl rfl) rfl rfl rfl ?_; refine LL.nilS ?_; refine CC.ret ?_; refine EE.thenR ?_)
  refine EE.ret _ rfl rfl ?_
  exact ⟨rfl, rfl⟩
theorem bcopy_none (p : Option Addr) (w : World) (h : Calls Try.prog 29 #[.pointer p] w fun e w' => e = .returned (.bool true) ∧ w = w') : Calls Try.prog 25 #[.pointer p] w fun e w' => e = .returned (.pointer none) ∧ w = w' := by
  refine X.fn Try.func25 rfl (n := 18) rfl rfl ?_
  (refine CC.seq ?_; refine CC.region ?_; refine LL.val (R.assign rfl rfl) rfl rfl rfl ?_; refine LL.nilS ?_; refine CC.seq ?_; refine CC.seq ?_; refine CC.region ?_; refine LL.val (R.move rfl rfl) rfl rfl rfl ?_)
  refine LL.call (R.call rfl rfl rfl) rfl rfl rfl h ?_
  rintro e w1 ⟨rfl, rfl⟩
  refine ⟨_, rfl, ?_⟩
  (refine LL.nilS ?_; refine CC.yes rfl ?_; refine CC.seq ?_; refine CC.region ?_; refine LL.val (R.assign rfl rfl) rfl rfl rfl ?_; refine LL.nilS ?_; refine CC.ret ?_; refine EE.thenR ?_)
  refine EE.ret _ rfl rfl ?_
  exact ⟨rfl, rfl⟩
theorem bleft_none (p : Option Addr) (w : World) (h : Calls Try.prog 29 #[.pointer p] w fun e w' => e = .returned (.bool true) ∧ w = w') : Calls Try.prog 23 #[.pointer p] w fun e w' => e = .returned (.int .i64 0) ∧ w = w' := by
  refine X.fn Try.func23 rfl (n := 28) rfl rfl ?_
  (refine CC.seq ?_; refine CC.region ?_; refine LL.val (R.assign rfl rfl) rfl rfl rfl ?_; refine LL.nilS ?_; refine CC.seq ?_; refine CC.seq ?_; refine CC.region ?_; refine LL.val (R.move rfl rfl) rfl rfl rfl ?_)
  refine LL.call (R.call rfl rfl rfl) rfl rfl rfl h ?_
  rintro e w1 ⟨rfl, rfl⟩
  refine ⟨_, rfl, ?_⟩
  (refine LL.nilS ?_; refine CC.yes rfl ?_; refine CC.seq ?_; refine CC.region ?_; refine LL.val (R.assign rfl rfl) rfl rfl rfl ?_; refine LL.nilS ?_; refine CC.ret ?_; refine EE.thenR ?_)
  refine EE.ret _ rfl rfl ?_
  exact ⟨rfl, rfl⟩
set_option maxRecDepth 100000 in
set_option maxHeartbeats 2000000 in
theorem bcopy_made {K : Nat → Prop} {g bits : Nat} {v : Value} {ws : List Nat} (w : World) (h : BmAt w K g v bits ws) : Calls Try.prog 25 #[.pointer (some ⟨g, 0, none⟩)] w fun e w' => ∃ g' v', e = .returned (.pointer (some ⟨g', 0, none⟩)) ∧ BmAt w' (· < w.heap.size) g' v' bits ws ∧ w.heap.size ≤ g' ∧ Below w.heap.size w w' := by
  have hgl := h.row.lt
  have hlen := h.len
  have hhi := h.hi
  obtain ⟨a1, cp1, rfl⟩ := h.form
  refine X.fn Try.func25 rfl (n := 18) rfl rfl ?_
  (refine CC.seq ?_; refine CC.region ?_; refine LL.val (R.assign rfl rfl) rfl rfl rfl ?_; refine LL.nilS ?_; refine CC.seq ?_; refine CC.seq ?_; refine CC.region ?_; refine LL.val (R.move rfl rfl) rfl rfl rfl ?_)
  refine LL.call (R.call rfl rfl rfl) rfl rfl rfl (bnone_made _ h) ?_
  rintro e w1 ⟨rfl, rfl⟩
  refine ⟨_, rfl, ?_⟩
  (refine LL.nilS ?_; refine CC.no rfl ?_; refine CC.skip ?_; refine EE.thenN ?_; refine CC.seq ?_)
  have ok0 : Below w.heap.size w w.drew := below_drew
  have c0 : ∀ w', Below w.heap.size w w' → w'.cell? ⟨g, 0, none⟩ = some (.slice a1 ws.length cp1) := fun w' hw' => (h.row.below hw' hgl).cell rfl
  have c1 : ∀ w', Below w.heap.size w w' → w'.cell? ⟨g, 1, none⟩ = some (.int .i64 (bits : Int)) := fun w' hw' => (h.row.below hw' hgl).cell rfl
  refine CC.free (Below w.heap.size w) (by kernel_rfl) rfl ?_
  (refine AA.pure 0 rfl (by assumption) (by kernel_rfl) (fun w' hw' => R.move rfl rfl) rfl rfl ?_)
  (refine AA.pure 1 rfl (by assumption) (by kernel_rfl) (fun w' hw' => R.nil rfl rfl) rfl rfl ?_)
  (refine AA.pure 2 rfl (by assumption) (by kernel_rfl) (fun w' hw' => R.field rfl rfl (I.fld rfl)) rfl rfl ?_)
  (refine AA.pure 3 rfl (by assumption) (by kernel_rfl) (fun w' hw' => R.field rfl rfl (I.fld rfl)) rfl rfl ?_)
  refine AA.pure 4 rfl (by assumption) (by kernel_rfl) (fun w' hw' => R.load rfl rfl (I.ld1 rfl (c0 w' hw'))) rfl rfl ?_
  (refine AA.pure 7 rfl (by assumption) (by kernel_rfl) (fun w' hw' => R.move rfl rfl) rfl rfl ?_)
  (refine AA.pure 8 rfl (by assumption) (by kernel_rfl) (fun w' hw' => R.nil rfl rfl) rfl rfl ?_)
  (refine AA.pure 9 rfl (by assumption) (by kernel_rfl) (fun w' hw' => R.field rfl rfl (I.fld rfl)) rfl rfl ?_)
  refine AA.pure 10 rfl (by assumption) (by kernel_rfl) (fun w' hw' => R.load rfl rfl (I.ld1 rfl (c1 w' hw'))) rfl rfl ?_
  refine AA.one 5 (by kernel_rfl) ?_
  refine SR.call rfl (R.call rfl rfl rfl) rfl rfl (uclone_any _ ws w.drew ((h.list.reads uEnc).below ok0) (by omega)) ?_
  rintro e w3 ⟨v3, rfl, o3, b3⟩
  have q3 : Below w.heap.size w w3 := ok0.trans (b3.mono (Nat.le_refl _))
  have y3 := q3.size
  have hy : w.drew.heap.size = w.heap.size := rfl
  obtain ⟨a3, cp3, rfl, _⟩ := (o3.reads uEnc).form (n := ws.length) rfl
  refine ⟨_, rfl, q3, ?_⟩
  refine AA.pure 6 rfl (by assumption) (by kernel_rfl) (fun w' hw' => R.buildV rfl rfl (v := .agg #[.slice a3 ws.length cp3]) (fun _ => by kernel_rfl)) rfl rfl ?_
  refine AA.pure 11 rfl (by assumption) (by kernel_rfl) (fun w' hw' => R.buildV rfl rfl (v := .agg #[.slice a3 ws.length cp3, .int .i64 (bits : Int)]) (fun _ => by kernel_rfl)) rfl rfl ?_
  refine AA.one 12 (by kernel_rfl) ?_
  refine SR.box [.slice a3 ws.length cp3, .int .i64 (bits : Int)] rfl rfl rfl rfl rfl rfl ?_
  intro w4 g4 e4 r4 z4 b4
  have q4 : Below w.heap.size w w4 := q3.trans (b4.mono q3.size)
  refine ⟨q4, ?_⟩
  (refine AA.pure 13 rfl (by assumption) (by kernel_rfl) (fun w' hw' => R.assign rfl rfl) rfl rfl ?_)
  refine AA.done (by kernel_rfl) ?_
  have hne : ∀ j, j < w.heap.size ∨ j = g4 → (Value.slice a3 ws.length cp3).ownBlock ≠ some j := by
    intro j hj
    rcases o3.above with h0 | ⟨b, h0, h1, h2⟩
    · rw [h0]; simp
    · rw [h0]; intro e; cases e; omega
  (refine EE.thenN ?_; refine CC.ret ?_)
  refine EE.ret _ rfl rfl ?_
  exact ⟨g4, _, rfl, ⟨r4, (o3.below b4).lower (by omega), hne g4 (.inr rfl), h.lo, h.hi, h.len, h.wf, h.rest, fun j hj => by have := q4.size; omega, by omega, fun j hj => hne j (.inl hj)⟩, by omega, q4⟩

/-- How many bits are set. -/
def onesW (ws : List Nat) : Nat := (ws.map fun x => (ones x).length).sum
theorem onesW_step {ws : List Nat} {i x : Nat} (h : ws[i]? = some x) : onesW (ws.take (i + 1)) = onesW (ws.take i) + (ones x).length := by
  unfold onesW
  rw [List.take_add_one, h]
  simp
theorem onesW_le (ws : List Nat) : onesW ws ≤ 64 * ws.length := by
  unfold onesW
  induction ws with
  | nil => simp
  | cons x ws ih =>
    have := onesTo_len x 64
    have e : onesTo x 64 = ones x := rfl
    rw [e] at this
    simp only [List.map_cons, List.sum_cons, List.length_cons]
    omega
set_option maxRecDepth 100000 in
set_option maxHeartbeats 2000000 in
theorem bleft_made {K : Nat → Prop} {g bits : Nat} {v : Value} {ws : List Nat} (w : World) (h : BmAt w K g v bits ws) : Calls Try.prog 23 #[.pointer (some ⟨g, 0, none⟩)] w fun e w' => e = .returned (.int .i64 ((bits : Int) - (onesW ws : Int))) ∧ Below w.heap.size w w' := by
  obtain ⟨N, hN⟩ : ∃ N, ws.length = N := ⟨_, rfl⟩
  have hlen := h.len
  have hhi := h.hi
  have hr := h.list.reads uEnc
  obtain ⟨a, cap, rfl, _⟩ := hr.form hN
  have c0 : w.cell? ⟨g, 0, none⟩ = some (.slice a N cap) := h.row.cell rfl
  have c1 : w.cell? ⟨g, 1, none⟩ = some (.int .i64 (bits : Int)) := h.row.cell rfl
  refine X.fn Try.func23 rfl (n := 28) rfl rfl ?_
  (refine CC.seq ?_; refine CC.region ?_; refine LL.val (R.assign rfl rfl) rfl rfl rfl ?_; refine LL.nilS ?_; refine CC.seq ?_; refine CC.seq ?_; refine CC.region ?_; refine LL.val (R.move rfl rfl) rfl rfl rfl ?_)
  refine LL.call (R.call rfl rfl rfl) rfl rfl rfl (bnone_made _ h) ?_
  rintro e w1 ⟨rfl, rfl⟩
  refine ⟨_, rfl, ?_⟩
  (refine LL.nilS ?_; refine CC.no rfl ?_; refine CC.skip ?_; refine EE.thenN ?_; refine CC.seq ?_; refine CC.region ?_; refine LL.val (R.move rfl rfl) rfl rfl rfl ?_; refine LL.val (R.nil rfl rfl) rfl rfl rfl ?_; refine LL.val (R.field rfl rfl (I.fld rfl)) rfl rfl rfl ?_; refine LL.val (R.load rfl rfl (I.ld1 rfl (by assumption))) rfl rfl rfl ?_; refine LL.val (R.assign rfl rfl) rfl rfl rfl ?_; refine LL.nilS ?_; refine CC.seq ?_; refine CC.seq ?_; refine CC.region ?_; refine LL.val (R.move rfl rfl) rfl rfl rfl ?_; refine LL.val (R.nil rfl rfl) rfl rfl rfl ?_; refine LL.val (R.field rfl rfl (I.fld rfl)) rfl rfl rfl ?_; refine LL.val (R.field rfl rfl (I.fld rfl)) rfl rfl rfl ?_; refine LL.val (R.load rfl rfl (I.ld1 rfl (by assumption))) rfl rfl rfl ?_; refine LL.val (R.len rfl rfl rfl rfl) rfl rfl rfl ?_; refine LL.val (R.move rfl rfl) rfl rfl rfl ?_; refine LL.nilS ?_; refine CC.block ?_)
  refine CC.loop (α := Nat) (fun i => [(3, .int .i64 ((bits : Int) - (onesW (ws.take i) : Int))), (16, .slice a N cap), (17, .int .i64 (N : Int)), (18, .int .i64 (i : Int))]) (fun i wr => Below w.heap.size w wr ∧ i ≤ N) (fun i => N - i) 0 ⟨by simp [onesW]; rfl, rfl, rfl, rfl, trivial⟩ ⟨Below.refl _ _, by omega⟩ ?_
  rintro i wr ⟨hbw, hi⟩
  by_cases h1 : i < N
  · obtain ⟨x, hx⟩ : ∃ x, ws[i]? = some x := ⟨_, List.getElem?_eq_getElem (by omega)⟩
    have hxl := h.wf x (List.mem_of_getElem? hx)
    obtain ⟨b, off, rfl, hbl, hcs⟩ := hr.get uEnc hx
    have hc0 : wr.cell? ⟨b, off + i, none⟩ = some (.int .u64 (x : Int)) := by simpa using (hcs.below hbw hbl).at (j := 0) (u := .int .u64 (x : Int)) rfl
    have hlx : (ones x).length ≤ 64 := onesTo_len x 64
    have hw1 := onesW_le (ws.take i)
    rw [List.length_take] at hw1
    have hw2 : 64 * min i ws.length ≤ 64 * 1024 := by omega
    have hst := onesW_step hx
    (refine CC.seq ?_; refine CC.region ?_; refine LL.val (R.ltT rfl rfl rfl (by omega)) rfl rfl rfl ?_; refine LL.nilS ?_; refine CC.seq ?_; refine CC.yes rfl ?_; refine CC.skip ?_; refine EE.thenN ?_; refine CC.seq ?_; refine CC.block ?_; refine CC.seq ?_; refine CC.region ?_; refine LL.val (R.index rfl rfl rfl (I.ixS1 rfl (by omega))) rfl rfl rfl ?_; refine LL.val (R.load rfl rfl (I.ld1 rfl (by assumption))) rfl rfl rfl ?_; refine LL.val (R.assign rfl rfl) rfl rfl rfl ?_; refine LL.nilS ?_; refine CC.region ?_; refine LL.val (R.move rfl rfl) rfl rfl rfl ?_; refine LL.val (R.move rfl rfl) rfl rfl rfl ?_)
    refine LL.call (R.call rfl rfl rfl) rfl rfl rfl (wones_any x hxl wr) ?_
    rintro e w2 ⟨rfl, b2⟩
    refine ⟨_, rfl, ?_⟩
    (refine LL.val (R.subI rfl rfl rfl (by omega)) rfl rfl rfl ?_; refine LL.val (R.assign rfl rfl) rfl rfl rfl ?_; refine LL.nil ?_; refine EE.inN ?_; refine EE.thenN ?_; refine CC.region ?_; refine LL.val (R.addNc rfl rfl rfl rfl (by omega)) rfl rfl rfl ?_; refine LL.val (R.move rfl rfl) rfl rfl rfl ?_; refine LL.nil ?_)
    refine EE.round (i + 1) ⟨?_, rfl, rfl, rfl, trivial⟩ ⟨hbw.trans (b2.mono hbw.size), by omega⟩ (by omega)
    rw [hst]
    show some (Value.int .i64 ((bits : Int) - (onesW (ws.take i) : Int) - ((ones x).length : Int))) = _
    congr 2
    omega
  · obtain rfl : i = N := by omega
    (refine CC.seq ?_; refine CC.region ?_; refine LL.val (R.ltF rfl rfl rfl (by omega)) rfl rfl rfl ?_; refine LL.nilS ?_; refine CC.seq ?_; refine CC.no rfl ?_; refine CC.exit ?_; refine EE.thenX ?_; refine EE.thenX ?_; refine EE.inX ?_; refine EE.thenN ?_; refine CC.seq ?_; refine CC.region ?_; refine LL.val (R.move rfl rfl) rfl rfl rfl ?_; refine LL.val (R.assign rfl rfl) rfl rfl rfl ?_; refine LL.nilS ?_; refine CC.ret ?_)
    refine EE.ret _ rfl rfl ?_
    refine ⟨?_, hbw⟩
    rw [List.take_of_length_le (by omega)]
    rfl
end Go.Proofs.Ytojoaplbgcdapaa
