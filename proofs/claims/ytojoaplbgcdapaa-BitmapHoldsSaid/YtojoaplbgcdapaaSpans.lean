/- bitmap: spans, an iterator over runs. -/
import Derived.Test.YtojoaplbgcdapaaEqB
import Derived.Test.YtojoaplbgcdapaaRunsP
import Derived.Laws.StructEq
import Derived.Tactics2
namespace Go.Proofs.Ytojoaplbgcdapaa
set_option linter.unusedVariables false
set_option linter.unusedSimpArgs false
open Go.RowKit Go.Shelf

def rE (r : Rn) : List Value := [.int .i64 (r.1 : Int), .int .i64 (r.2 : Int)]
theorem rEnc : Enc rE 2 := ⟨fun _ => rfl, fun t u hu => by
  simp only [rE, List.mem_cons, List.not_mem_nil, or_false] at hu
  rcases hu with rfl | rfl <;> rfl, by decide⟩
theorem eqRun (a b c d : Int) (w : World) : (Op.equalIn 10000 57 (.agg #[.int .i64 a, .int .i64 b]) (.agg #[.int .i64 c, .int .i64 d])).run Try.prog w = .ok (a == c && b == d) w := by
  have u3 := Try.underlying3
  have a3 := Try.isAgg3
  have z3 := Try.sizeOf3
  have hS : Try.prog.underlying 57 = some (.struct (Try.prog.fieldsOf 57)) := by kernel_rfl
  rw [show (10000 : Nat) = 9999 + 1 from rfl, run_equalIn_agg w 9999 57 _ _ hS (by kernel_rfl)]
  simp only [Program.fieldsOf, Try.underlying57]
  go_simp
  by_cases h1 : a = c <;> by_cases h2 : b = d <;> simp [h1, h2]
theorem R.neRun {n : Nat} {D : List Deferred} {M : Slots} {w : World} {o : Oper} {x y : Operand} {u : TypeId} {s t : Rn} {b : Bool} (ho : o.op = .binOp .neq 57 x y u) (hx : evM M x = some (.agg (rE s).toArray)) (hy : evM M y = some (.agg (rE t).toArray)) (hb : (!decide (s = t)) = b) : Runs Try.prog n D M o w (.value (.bool b)) w := R.bin ho hx hy (by
  subst hb
  simp only [Sem.run_bind, rE, run_eqGuard_agg w _ _ _ _ _ _ (show Try.prog.eqGuardType Try.prog.depth 57 = false by kernel_rfl), Result.andThen_ok, run_neq_struct, eqRun]
  obtain ⟨s1, s2⟩ := s
  obtain ⟨t1, t2⟩ := t
  have e1 : (((s1 : Nat) : Int) == ((t1 : Nat) : Int)) = decide (s1 = t1) := by
    rw [Bool.eq_iff_iff]
    simp only [beq_iff_eq, decide_eq_true_eq]
    exact ⟨fun h => by omega, fun h => by omega⟩
  have e2 : (((s2 : Nat) : Int) == ((t2 : Nat) : Int)) = decide (s2 = t2) := by
    rw [Bool.eq_iff_iff]
    simp only [beq_iff_eq, decide_eq_true_eq]
    exact ⟨fun h => by omega, fun h => by omega⟩
  simp only [e1, e2]
  by_cases h1 : s1 = t1 <;> by_cases h2 : s2 = t2 <;> simp [h1, h2])
theorem OwnsT.keptO {α : Type} {enc : α → List Value} {k : Nat} {w w' : World} {base e : Nat} {v : Value} {ts : List α} (h : OwnsT enc k w base e v ts) (hk : ∀ b, v.ownBlock = some b → w'.heap[b]? = w.heap[b]?) : OwnsT enc k w' base e v ts := by
  refine ⟨h.1, ?_⟩
  rcases h.2 with h2 | ⟨g', cap, cur, rfl, hbg, hb, h3⟩
  · exact .inl h2
  · exact .inr ⟨g', cap, cur, rfl, hbg, (hk g' rfl).trans hb, h3⟩

abbrev encR (r : Rn) : List Value := [.agg (rE r).toArray]
/-- What an iterator over runs reads. -/
structure SpAt (w : World) (g b3 b4 : Nat) (v : Value) (bits : Nat) (ws : List Nat) (set : Bool) : Prop where
  row : RowL w g 43 [v, .int .i64 (bits : Int)]
  list : OwnsT uE 1 w 0 61 v ws
  r3 : RowL w b3 24 [.pointer (some ⟨g, 0, none⟩)]
  r4 : RowL w b4 4 [.bool set]
  hi : bits ≤ 65536
  len : ws.length = (bits + 63) / 64
  wf : ∀ x ∈ ws, x < 18446744073709551616
theorem SpAt.below {w w' : World} {g b3 b4 bits : Nat} {v : Value} {ws : List Nat} {set : Bool} (h : SpAt w g b3 b4 v bits ws set) (hb : Below w.heap.size w w') : SpAt w' g b3 b4 v bits ws set :=
  ⟨h.row.below hb h.row.lt, h.list.below hb, h.r3.below hb h.r3.lt, h.r4.below hb h.r4.lt, h.hi, h.len, h.wf⟩
def spD (g b3 b4 : Nat) (v : Value) : Nat → Prop := fun k => k = g ∨ k = b3 ∨ k = b4 ∨ v.ownBlock = some k
theorem SpAt.keeps {w w' : World} {g b3 b4 bits : Nat} {v : Value} {ws : List Nat} {set : Bool} (h : SpAt w g b3 b4 v bits ws set) (hk : Keeps (spD g b3 b4 v) w w') : SpAt w' g b3 b4 v bits ws set :=
  ⟨h.row.same (hk.same g (.inl rfl)), h.list.keptO fun b hb => hk.same b (.inr (.inr (.inr hb))), h.r3.same (hk.same b3 (.inr (.inl rfl))), h.r4.same (hk.same b4 (.inr (.inr (.inl rfl)))), h.hi, h.len, h.wf⟩
theorem SpAt.lt {w : World} {g b3 b4 bits : Nat} {v : Value} {ws : List Nat} {set : Bool} (h : SpAt w g b3 b4 v bits ws set) : ∀ k, spD g b3 b4 v k → k < w.heap.size := by
  rintro k (rfl | rfl | rfl | hk)
  · exact h.row.lt
  · exact h.r3.lt
  · exact h.r4.lt
  · rcases h.list.above with h0 | ⟨b, h0, _, h2⟩
    · rw [h0] at hk; cases hk
    · rw [h0] at hk; cases hk; exact h2

set_option maxRecDepth 100000 in
set_option maxHeartbeats 4000000 in
theorem spans_gives {g b3 b4 b5 bits : Nat} {v : Value} {ws : List Nat} {set : Bool} (fr : Nat) (w : World) (h : SpAt w g b3 b4 v bits ws set) (h5 : RowL w b5 3 [.int .i64 (fr : Int)]) (hfr : fr ≤ bits) :
    GivesM Try.prog 50 [Value.pointer (some ⟨b5, 0, none⟩), .pointer (some ⟨b3, 0, none⟩), .pointer (some ⟨b4, 0, none⟩)].toArray (fun r => (encR r).toArray) (spD g b3 b4 v) (fun xs => xs = runsP (fun i => wb ws i == set) fr (bits - fr)) w := by
  intro l J Jx W hW hJ hJx hY h0
  have hV := h.below hW
  have h5W := h5.below hW h5.lt
  have hhi := h.hi
  have hlen := h.len
  obtain ⟨P, hP⟩ : ∃ P : Nat → Bool, (fun i => wb ws i == set) = P := ⟨_, rfl⟩
  rw [hP] at hY ⊢
  rw [show (#[.func (.yield l) #[] #[]] ++ [Value.pointer (some ⟨b5, 0, none⟩), .pointer (some ⟨b3, 0, none⟩), .pointer (some ⟨b4, 0, none⟩)].toArray : Array Value) = #[.func (.yield l) #[] #[], .pointer (some ⟨b5, 0, none⟩), .pointer (some ⟨b3, 0, none⟩), .pointer (some ⟨b4, 0, none⟩)] from rfl]
  refine X.fn Try.func50 rfl (n := 51) rfl rfl ?_
  (refine CC.seq ?_; refine CC.region ?_; refine LL.val (R.load rfl rfl (I.ld1 rfl (RowL.cell (by assumption) rfl))) rfl rfl rfl ?_; refine LL.val (R.assign rfl rfl) rfl rfl rfl ?_; refine LL.nilS ?_; refine CC.block ?_)
  refine CC.loop (α := Nat) (fun k => [(0, .func (.yield l) #[] #[]), (2, .pointer (some ⟨b3, 0, none⟩)), (3, .pointer (some ⟨b4, 0, none⟩)), (5, .int .i64 (k : Int))]) (fun k wr => fr ≤ k ∧ Keeps (spD g b3 b4 v) W wr ∧ ((k ≤ bits ∧ J W.heap.size (runsP P fr (k - fr)) wr ∧ Apart P fr (k - fr)) ∨ (k = bits + 1 ∧ J W.heap.size (runsP P fr (bits - fr)) wr))) (fun k => bits + 1 - k) fr ⟨rfl, rfl, rfl, rfl, trivial⟩ ⟨Nat.le_refl _, .refl _ _, .inl ⟨hfr, by rw [Nat.sub_self]; exact h0 _, by rw [Nat.sub_self]; exact apart_zero⟩⟩ ?_
  rintro k wr ⟨hfk, hkp, hor⟩
  have hVr := hV.keeps hkp
  have c3 := hVr.r3.cell (j := 0) rfl
  have c1 : wr.cell? ⟨g, 1, none⟩ = some (.int .i64 (bits : Int)) := hVr.row.cell rfl
  by_cases hlt : k < bits
  · have hor2 : J W.heap.size (runsP P fr (k - fr)) wr ∧ Apart P fr (k - fr) := by
      rcases hor with ⟨_, h1, h2⟩ | ⟨hk1, _⟩
      · exact ⟨h1, h2⟩
      · omega
    obtain ⟨hJk, hap⟩ := hor2
    (refine CC.seq ?_; refine CC.seq ?_; refine CC.region ?_; refine LL.val (R.move rfl rfl) rfl rfl rfl ?_; refine LL.val (R.load rfl rfl (I.ld1 rfl (by assumption))) rfl rfl rfl ?_; refine LL.val (R.nil rfl rfl) rfl rfl rfl ?_; refine LL.val (R.field rfl rfl (I.fld rfl)) rfl rfl rfl ?_; refine LL.val (R.load rfl rfl (I.ld1 rfl (by assumption))) rfl rfl rfl ?_; refine LL.val (R.ltT rfl rfl rfl (by omega)) rfl rfl rfl ?_; refine LL.nilS ?_; refine CC.yes rfl ?_; refine CC.skip ?_; refine EE.thenN ?_; refine CC.seq ?_; refine CC.block ?_; refine CC.seq ?_; refine CC.region ?_; refine LL.val (R.move rfl rfl) rfl rfl rfl ?_)
    refine LL.val (R.buildV rfl rfl (v := .agg (rE (k, 0)).toArray) (fun _ => by kernel_rfl)) rfl rfl rfl ?_
    refine LL.alloc (rE (0, 0)) rfl rfl rfl rfl rfl ?_
    intro w1 g6 e1 r1 z1 b1
    skip
    refine LL.storeN (vs := rE (k, 0)) rfl rfl rfl rfl r1 (Nat.le_of_ble_eq_true rfl) (rEnc.one _) rfl rfl ?_
    intro w2 r2 g2 z2
    (refine LL.nilS ?_; refine CC.seq ?_; refine CC.region ?_)
    refine LL.val (R.load rfl rfl (I.ldN (vs := rE (k, 0)) rfl rfl (r2.cells rfl))) rfl rfl rfl ?_
    refine LL.alloc (rE (0, 0)) rfl rfl rfl rfl rfl ?_
    intro w3 g7 e3 r3 z3 b3'
    skip
    refine LL.storeN (vs := rE (k, 0)) rfl rfl rfl rfl r3 (Nat.le_of_ble_eq_true rfl) (rEnc.one _) rfl rfl ?_
    intro w4 r4 g4 z4
    have q2 : Below wr.heap.size wr w2 := b1.grown g2 (by omega) (by rintro k ⟨⟩; omega)
    have q4 : Below wr.heap.size wr w4 := (q2.trans (b3'.mono q2.size)).grown g4 (by have := q2.size; omega) (by rintro k ⟨⟩; have := q2.size; omega)
    have r24 : RowL w4 g6 57 (rE (k, 0)) := (r2.below b3' r2.lt).same (g4.block g6 (by have := r2.lt; omega) (by simp; have := r2.lt; omega))
    have hg67 : g6 ≠ g7 := by have := r2.lt; omega
    have hg7w : wr.heap.size ≤ g7 := by have := q2.size; omega
    have hg6w : wr.heap.size ≤ g6 := by omega
    (refine LL.nilS ?_; refine CC.seq ?_; refine CC.block ?_)
    refine CC.loop (α := Nat) (fun m => [(0, .func (.yield l) #[] #[]), (2, .pointer (some ⟨b3, 0, none⟩)), (3, .pointer (some ⟨b4, 0, none⟩)), (5, .int .i64 ((k + m : Nat) : Int)), (6, .pointer (some ⟨g6, 0, none⟩)), (7, .pointer (some ⟨g7, 0, none⟩))]) (fun m ws' => k + m ≤ bits ∧ Below wr.heap.size wr ws' ∧ RowL ws' g6 57 (rE (k, 0)) ∧ RowL ws' g7 57 (rE (k, m)) ∧ ∀ i, i < m → P (k + i) = true) (fun m => bits - (k + m)) 0 ⟨rfl, rfl, rfl, rfl, rfl, rfl, trivial⟩ ⟨by omega, q4, r24, r4, fun i hi => absurd hi (by omega)⟩ ?_
    rintro m wm ⟨hm, hbm, h6, h7, hall⟩
    have hVm := hVr.below hbm
    have hVd := hVm.below below_drew
    have d3 : wm.drew.cell? ⟨b3, 0, none⟩ = some (.pointer (some ⟨g, 0, none⟩)) := hVd.r3.cell rfl
    have d1 : wm.drew.cell? ⟨g, 1, none⟩ = some (.int .i64 (bits : Int)) := hVd.row.cell rfl
    by_cases hkm : k + m < bits
    · have ok0 : Below wm.heap.size wm wm.drew := below_drew
      have x3 : ∀ w', Below wm.heap.size wm w' → w'.cell? ⟨b3, 0, none⟩ = some (.pointer (some ⟨g, 0, none⟩)) := fun w' hw' => (hVm.below hw').r3.cell rfl
      have x1 : ∀ w', Below wm.heap.size wm w' → w'.cell? ⟨g, 1, none⟩ = some (.int .i64 (bits : Int)) := fun w' hw' => (hVm.below hw').row.cell rfl
      have x0 : ∀ w', Below wm.heap.size wm w' → Cells w' ⟨g, 0, none⟩ [v] := fun w' hw' => (hVm.below hw').row.cells rfl
      have x4 : ∀ w', Below wm.heap.size wm w' → w'.cell? ⟨b4, 0, none⟩ = some (.bool set) := fun w' hw' => (hVm.below hw').r4.cell rfl
      (refine CC.seq ?_; refine CC.seq ?_)
      refine CC.free (Below wm.heap.size wm) (by kernel_rfl) rfl ?_
      (refine AA.pure 0 rfl (by assumption) (by kernel_rfl) (fun w' hw' => R.move rfl rfl) rfl rfl ?_)
      refine AA.pure 1 rfl (by assumption) (by kernel_rfl) (fun w' hw' => R.load rfl rfl (I.ld1 rfl (x3 w' hw'))) rfl rfl ?_
      (refine AA.pure 2 rfl (by assumption) (by kernel_rfl) (fun w' hw' => R.nil rfl rfl) rfl rfl ?_)
      (refine AA.pure 3 rfl (by assumption) (by kernel_rfl) (fun w' hw' => R.field rfl rfl (I.fld rfl)) rfl rfl ?_)
      refine AA.pure 4 rfl (by assumption) (by kernel_rfl) (fun w' hw' => R.load rfl rfl (I.ld1 rfl (x1 w' hw'))) rfl rfl ?_
      refine AA.pure 5 rfl (by assumption) (by kernel_rfl) (fun w' hw' => R.ltT rfl rfl rfl (by omega)) rfl rfl ?_
      (refine AA.pure 6 rfl (by assumption) (by kernel_rfl) (fun w' hw' => R.move rfl rfl) rfl rfl ?_)
      refine AA.pure 7 rfl (by assumption) (by kernel_rfl) (fun w' hw' => R.load rfl rfl (I.ld1 rfl (x3 w' hw'))) rfl rfl ?_
      (refine AA.pure 8 rfl (by assumption) (by kernel_rfl) (fun w' hw' => R.nil rfl rfl) rfl rfl ?_)
      (refine AA.pure 9 rfl (by assumption) (by kernel_rfl) (fun w' hw' => R.field rfl rfl (I.fld rfl)) rfl rfl ?_)
      refine AA.pure 10 rfl (by assumption) (by kernel_rfl) (fun w' hw' => R.load rfl rfl (I.ldN (vs := [v]) rfl rfl (x0 w' hw'))) rfl rfl ?_
      (refine AA.pure 11 rfl (by assumption) (by kernel_rfl) (fun w' hw' => R.move rfl rfl) rfl rfl ?_)
      refine AA.pure 13 rfl (by assumption) (by kernel_rfl) (fun w' hw' => R.load rfl rfl (I.ld1 rfl (x4 w' hw'))) rfl rfl ?_
      refine AA.one 12 (by kernel_rfl) ?_
      refine SR.call rfl (R.call rfl rfl rfl) rfl rfl (has_any (k + m) wm.drew (hVd.list.reads uEnc) (by omega) (by omega) hVd.wf) ?_
      rintro e w5 ⟨rfl, b5'⟩
      have q5 : Below wm.heap.size wm w5 := ok0.trans (b5'.mono (Nat.le_refl _))
      refine ⟨_, rfl, q5, ?_⟩
      have hPk : (wb ws (k + m) == set) = P (k + m) := by rw [← hP]
      refine AA.pure 14 rfl (by assumption) (by kernel_rfl) (fun w' hw' => R.eqBool rfl rfl rfl rfl hPk) rfl rfl ?_
      (refine AA.pure 15 rfl (by assumption) (by kernel_rfl) (fun w' hw' => R.pick rfl rfl rfl) rfl rfl ?_)
      refine AA.done (by kernel_rfl) ?_
      have hb5 : Below wr.heap.size wr w5 := hbm.trans (q5.mono hbm.size)
      have h65 := h6.below q5 h6.lt
      have h75 := h7.below q5 h7.lt
      cases hp : P (k + m) with
      | true =>
        have d7 : w5.cell? ⟨g7, 1, none⟩ = some (.int .i64 (m : Int)) := h75.cell rfl
        (refine EE.thenN ?_; refine CC.yes rfl ?_; refine CC.skip ?_; refine EE.thenN ?_; refine CC.seq ?_; refine CC.block ?_; refine CC.region ?_; refine LL.val (R.field rfl rfl (I.fld rfl)) rfl rfl rfl ?_; refine LL.val (R.load rfl rfl (I.ld1 rfl (by assumption))) rfl rfl rfl ?_; refine LL.val (R.addNc rfl rfl rfl rfl (by omega)) rfl rfl rfl ?_; refine LL.val (R.field rfl rfl (I.fld rfl)) rfl rfl rfl ?_)
        refine LL.store rfl rfl rfl rfl h75 (by exact Nat.le_of_ble_eq_true rfl) rfl rfl rfl rfl ?_
        intro w6 r6 g6' z6
        (refine LL.nil ?_; refine EE.inN ?_; refine EE.thenN ?_; refine CC.region ?_; refine LL.val (R.move rfl rfl) rfl rfl rfl ?_; refine LL.val (R.addNc rfl rfl rfl rfl (by omega)) rfl rfl rfl ?_; refine LL.val (R.assign rfl rfl) rfl rfl rfl ?_; refine LL.nil ?_)
        exact EE.round (m + 1) ⟨rfl, rfl, rfl, rfl, rfl, rfl, trivial⟩ ⟨by omega, hb5.grown g6' (by have := hb5.size; omega) (by rintro k ⟨⟩; omega), h65.same (g6'.block g6 h65.lt (by simp; omega)), r6, fun i hi => by
          rcases Nat.lt_succ_iff_lt_or_eq.1 hi with h | rfl
          · exact hall i h
          · exact hp⟩ (by omega)
      | false =>
        have hend : k + m = bits ∨ P (k + m) = false := .inr hp
        have hkf : Keeps (spD g b3 b4 v) W w5 := hkp.trans (.of_below (fun j hj => hVr.lt j hj) hb5)
        have hJf : J W.heap.size (runsP P fr (k - fr)) w5 := hJ _ _ _ _ hJk (.of_below hb5)
        have hWf : W.heap.size ≤ w5.heap.size := hkf.size
        by_cases hm0 : m = 0
        · subst hm0
          (refine EE.thenN ?_; refine CC.no rfl ?_; refine CC.exit ?_; refine EE.thenX ?_; refine EE.thenX ?_; refine EE.inX ?_; refine EE.thenN ?_; refine CC.seq ?_; refine CC.region ?_)
          refine LL.val (R.load rfl rfl (I.ldN (vs := rE (k, 0)) rfl rfl (h75.cells rfl))) rfl rfl rfl ?_
          refine LL.val (R.load rfl rfl (I.ldN (vs := rE (k, 0)) rfl rfl (h65.cells rfl))) rfl rfl rfl ?_
          refine LL.val (R.neRun (s := (k, 0)) (t := (k, 0)) rfl rfl rfl (b := false) (by simp)) rfl rfl rfl ?_
          (refine LL.val (R.move rfl rfl) rfl rfl rfl ?_; refine LL.skip rfl rfl ?_; refine LL.skip rfl rfl ?_; refine LL.skip rfl rfl ?_; refine LL.skip rfl rfl ?_; refine LL.val (R.pick rfl rfl rfl) rfl rfl rfl ?_; refine LL.nilS ?_; refine CC.no rfl ?_; refine CC.skip ?_; refine EE.inN ?_; refine EE.thenN ?_; refine CC.region ?_; refine LL.val (R.move rfl rfl) rfl rfl rfl ?_; refine LL.val (R.addNc rfl rfl rfl rfl (by omega)) rfl rfl rfl ?_; refine LL.val (R.assign rfl rfl) rfl rfl rfl ?_; refine LL.nil ?_)
          have hPk0 : P k = false := by
            rcases hend with h1 | h1
            · omega
            · exact h1
          have e1 : k + 1 - fr = (k - fr) + 1 := by omega
          have e2 : P (fr + (k - fr)) = false := by rw [show fr + (k - fr) = k by omega]; exact hPk0
          refine EE.round (k + 1) ⟨rfl, rfl, rfl, rfl, trivial⟩ ⟨by omega, hkf, .inl ⟨by omega, ?_, ?_⟩⟩ (by omega)
          · rw [e1, runsP_off e2]
            exact hJf
          · rw [e1]
            exact apart_off e2
        · (refine EE.thenN ?_; refine CC.no rfl ?_; refine CC.exit ?_; refine EE.thenX ?_; refine EE.thenX ?_; refine EE.inX ?_; refine EE.thenN ?_; refine CC.seq ?_; refine CC.region ?_)
          refine LL.val (R.load rfl rfl (I.ldN (vs := rE (k, m)) rfl rfl (h75.cells rfl))) rfl rfl rfl ?_
          refine LL.val (R.load rfl rfl (I.ldN (vs := rE (k, 0)) rfl rfl (h65.cells rfl))) rfl rfl rfl ?_
          refine LL.val (R.neRun (s := (k, m)) (t := (k, 0)) rfl rfl rfl (b := true) (by simp; omega)) rfl rfl rfl ?_
          (refine LL.val (R.move rfl rfl) rfl rfl rfl ?_; refine LL.val (R.move rfl rfl) rfl rfl rfl ?_)
          refine LL.val (R.load rfl rfl (I.ldN (vs := rE (k, m)) rfl rfl (h75.cells rfl))) rfl rfl rfl ?_
          have hrun : runsP P fr (k - fr + m) = runsP P fr (k - fr) ++ [(k, m)] := by
            have := runsP_run hap m (by omega) (fun i hi => by rw [show fr + (k - fr) + i = k + i by omega]; exact hall i hi)
            rwa [show fr + (k - fr) = k by omega] at this
          have hpart : Part (fun xs => xs = runsP P fr (bits - fr)) (runsP P fr (k - fr) ++ [(k, m)]) := by
            rw [← hrun]
            rcases hend with h1 | h1
            · rw [show k - fr + m = bits - fr by omega]
              exact ⟨_, rfl, List.prefix_refl _⟩
            · have e2 : P (fr + (k - fr + m)) = false := by rw [show fr + (k - fr + m) = k + m by omega]; exact h1
              obtain ⟨s, hs, _⟩ := runsP_more (apart_off e2) (bits - fr - (k - fr + m + 1))
              rw [runsP_off e2] at hs
              by_cases hb0 : k + m = bits
              · rw [show k - fr + m = bits - fr by omega]
                exact ⟨_, rfl, List.prefix_refl _⟩
              · rw [show k - fr + m + 1 + (bits - fr - (k - fr + m + 1)) = bits - fr by omega] at hs
                exact ⟨_, rfl, s, hs.symm⟩
          refine LL.yield (vs := encR (k, m)) rfl rfl rfl rfl rfl (hY W.heap.size _ (k, m) w5 (Nat.le_refl _) hWf hJf hpart) ?_
          rintro e W3 ⟨hs3, (⟨rfl, hJ4, hb4⟩ | ⟨rfl, hJx4⟩)⟩
          · refine ⟨_, rfl, ?_⟩
            (refine LL.val (R.not rfl rfl) rfl rfl rfl ?_; refine LL.val (R.pick rfl rfl rfl) rfl rfl rfl ?_; refine LL.nilS ?_; refine CC.no rfl ?_; refine CC.skip ?_; refine EE.inN ?_; refine EE.thenN ?_; refine CC.region ?_; refine LL.val (R.move rfl rfl) rfl rfl rfl ?_; refine LL.val (R.addNc rfl rfl rfl rfl (by omega)) rfl rfl rfl ?_; refine LL.val (R.assign rfl rfl) rfl rfl rfl ?_; refine LL.nil ?_)
            have e1 : k + m + 1 - fr = (k - fr + m) + 1 := by omega
            refine EE.round (k + m + 1) ⟨rfl, rfl, rfl, rfl, trivial⟩ ⟨by omega, hkf.trans hb4, ?_⟩ (by omega)
            rw [← hrun] at hJ4
            rcases hend with h1 | h1
            · exact .inr ⟨by omega, by rw [show k - fr + m = bits - fr by omega] at hJ4; exact hJ4⟩
            · by_cases hb0 : k + m = bits
              · exact .inr ⟨by omega, by rw [show k - fr + m = bits - fr by omega] at hJ4; exact hJ4⟩
              · have e2 : P (fr + (k - fr + m)) = false := by rw [show fr + (k - fr + m) = k + m by omega]; exact h1
                exact .inl ⟨by omega, by rw [e1, runsP_off e2]; exact hJ4, by rw [e1]; exact apart_off e2⟩
          · refine ⟨_, rfl, ?_⟩
            (refine LL.val (R.not rfl rfl) rfl rfl rfl ?_; refine LL.val (R.pick rfl rfl rfl) rfl rfl rfl ?_; refine LL.nilS ?_; refine CC.yes rfl ?_; refine CC.ret ?_; refine EE.inR ?_; refine EE.thenR ?_; refine EE.thenR ?_; refine EE.inR ?_)
            refine EE.ret [] rfl rfl ?_
            exact ⟨⟨_, rfl⟩, .inr ⟨_, _, hpart, hJx4⟩⟩
    · (refine CC.seq ?_; refine CC.seq ?_)
      refine CC.quiet (by kernel_rfl) (by kernel_rfl) ?_
      (refine SS.val (R.move rfl rfl) rfl rfl ?_; refine SS.val (R.load rfl rfl (I.ld1 rfl (by assumption))) rfl rfl ?_; refine SS.val (R.nil rfl rfl) rfl rfl ?_; refine SS.val (R.field rfl rfl (I.fld rfl)) rfl rfl ?_; refine SS.val (R.load rfl rfl (I.ld1 rfl (by assumption))) rfl rfl ?_; refine SS.val (R.ltF rfl rfl rfl (by omega)) rfl rfl ?_; refine SS.val (R.move rfl rfl) rfl rfl ?_; refine SS.skip rfl rfl ?_; refine SS.skip rfl rfl ?_; refine SS.skip rfl rfl ?_; refine SS.skip rfl rfl ?_; refine SS.skip rfl rfl ?_; refine SS.skip rfl rfl ?_; refine SS.skip rfl rfl ?_; refine SS.skip rfl rfl ?_; refine SS.val (R.pick rfl rfl rfl) rfl rfl ?_; refine SS.nilQ ?_)
      have hbd : Below wr.heap.size wr wm.drew := hbm.drew
      have h6d := h6.drew
      have h7d := h7.drew
      have hend : k + m = bits ∨ P (k + m) = false := .inl (by omega)
      have hkf : Keeps (spD g b3 b4 v) W wm.drew := hkp.trans (.of_below (fun j hj => hVr.lt j hj) hbd)
      have hJf : J W.heap.size (runsP P fr (k - fr)) wm.drew := hJ _ _ _ _ hJk (.of_below hbd)
      have hWf : W.heap.size ≤ wm.drew.heap.size := hkf.size
      by_cases hm0 : m = 0
      · subst hm0
        (refine EE.thenN ?_; refine CC.no rfl ?_; refine CC.exit ?_; refine EE.thenX ?_; refine EE.thenX ?_; refine EE.inX ?_; refine EE.thenN ?_; refine CC.seq ?_; refine CC.region ?_)
        refine LL.val (R.load rfl rfl (I.ldN (vs := rE (k, 0)) rfl rfl (h7d.cells rfl))) rfl rfl rfl ?_
        refine LL.val (R.load rfl rfl (I.ldN (vs := rE (k, 0)) rfl rfl (h6d.cells rfl))) rfl rfl rfl ?_
        refine LL.val (R.neRun (s := (k, 0)) (t := (k, 0)) rfl rfl rfl (b := false) (by simp)) rfl rfl rfl ?_
        (refine LL.val (R.move rfl rfl) rfl rfl rfl ?_; refine LL.skip rfl rfl ?_; refine LL.skip rfl rfl ?_; refine LL.skip rfl rfl ?_; refine LL.skip rfl rfl ?_; refine LL.val (R.pick rfl rfl rfl) rfl rfl rfl ?_; refine LL.nilS ?_; refine CC.no rfl ?_; refine CC.skip ?_; refine EE.inN ?_; refine EE.thenN ?_; refine CC.region ?_; refine LL.val (R.move rfl rfl) rfl rfl rfl ?_; refine LL.val (R.addNc rfl rfl rfl rfl (by omega)) rfl rfl rfl ?_; refine LL.val (R.assign rfl rfl) rfl rfl rfl ?_; refine LL.nil ?_)
        have hPk0 : P k = false := by
          rcases hend with h1 | h1
          · omega
          · exact h1
        have e1 : k + 1 - fr = (k - fr) + 1 := by omega
        have e2 : P (fr + (k - fr)) = false := by rw [show fr + (k - fr) = k by omega]; exact hPk0
        refine EE.round (k + 1) ⟨rfl, rfl, rfl, rfl, trivial⟩ ⟨by omega, hkf, .inl ⟨by omega, ?_, ?_⟩⟩ (by omega)
        · rw [e1, runsP_off e2]
          exact hJf
        · rw [e1]
          exact apart_off e2
      · (refine EE.thenN ?_; refine CC.no rfl ?_; refine CC.exit ?_; refine EE.thenX ?_; refine EE.thenX ?_; refine EE.inX ?_; refine EE.thenN ?_; refine CC.seq ?_; refine CC.region ?_)
        refine LL.val (R.load rfl rfl (I.ldN (vs := rE (k, m)) rfl rfl (h7d.cells rfl))) rfl rfl rfl ?_
        refine LL.val (R.load rfl rfl (I.ldN (vs := rE (k, 0)) rfl rfl (h6d.cells rfl))) rfl rfl rfl ?_
        refine LL.val (R.neRun (s := (k, m)) (t := (k, 0)) rfl rfl rfl (b := true) (by simp; omega)) rfl rfl rfl ?_
        (refine LL.val (R.move rfl rfl) rfl rfl rfl ?_; refine LL.val (R.move rfl rfl) rfl rfl rfl ?_)
        refine LL.val (R.load rfl rfl (I.ldN (vs := rE (k, m)) rfl rfl (h7d.cells rfl))) rfl rfl rfl ?_
        have hrun : runsP P fr (k - fr + m) = runsP P fr (k - fr) ++ [(k, m)] := by
          have := runsP_run hap m (by omega) (fun i hi => by rw [show fr + (k - fr) + i = k + i by omega]; exact hall i hi)
          rwa [show fr + (k - fr) = k by omega] at this
        have hpart : Part (fun xs => xs = runsP P fr (bits - fr)) (runsP P fr (k - fr) ++ [(k, m)]) := by
          rw [← hrun]
          rcases hend with h1 | h1
          · rw [show k - fr + m = bits - fr by omega]
            exact ⟨_, rfl, List.prefix_refl _⟩
          · have e2 : P (fr + (k - fr + m)) = false := by rw [show fr + (k - fr + m) = k + m by omega]; exact h1
            obtain ⟨s, hs, _⟩ := runsP_more (apart_off e2) (bits - fr - (k - fr + m + 1))
            rw [runsP_off e2] at hs
            by_cases hb0 : k + m = bits
            · rw [show k - fr + m = bits - fr by omega]
              exact ⟨_, rfl, List.prefix_refl _⟩
            · rw [show k - fr + m + 1 + (bits - fr - (k - fr + m + 1)) = bits - fr by omega] at hs
              exact ⟨_, rfl, s, hs.symm⟩
        refine LL.yield (vs := encR (k, m)) rfl rfl rfl rfl rfl (hY W.heap.size _ (k, m) wm.drew (Nat.le_refl _) hWf hJf hpart) ?_
        rintro e W3 ⟨hs3, (⟨rfl, hJ4, hb4⟩ | ⟨rfl, hJx4⟩)⟩
        · refine ⟨_, rfl, ?_⟩
          (refine LL.val (R.not rfl rfl) rfl rfl rfl ?_; refine LL.val (R.pick rfl rfl rfl) rfl rfl rfl ?_; refine LL.nilS ?_; refine CC.no rfl ?_; refine CC.skip ?_; refine EE.inN ?_; refine EE.thenN ?_; refine CC.region ?_; refine LL.val (R.move rfl rfl) rfl rfl rfl ?_; refine LL.val (R.addNc rfl rfl rfl rfl (by omega)) rfl rfl rfl ?_; refine LL.val (R.assign rfl rfl) rfl rfl rfl ?_; refine LL.nil ?_)
          have e1 : k + m + 1 - fr = (k - fr + m) + 1 := by omega
          refine EE.round (k + m + 1) ⟨rfl, rfl, rfl, rfl, trivial⟩ ⟨by omega, hkf.trans hb4, ?_⟩ (by omega)
          rw [← hrun] at hJ4
          rcases hend with h1 | h1
          · exact .inr ⟨by omega, by rw [show k - fr + m = bits - fr by omega] at hJ4; exact hJ4⟩
          · by_cases hb0 : k + m = bits
            · exact .inr ⟨by omega, by rw [show k - fr + m = bits - fr by omega] at hJ4; exact hJ4⟩
            · have e2 : P (fr + (k - fr + m)) = false := by rw [show fr + (k - fr + m) = k + m by omega]; exact h1
              exact .inl ⟨by omega, by rw [e1, runsP_off e2]; exact hJ4, by rw [e1]; exact apart_off e2⟩
        · refine ⟨_, rfl, ?_⟩
          (refine LL.val (R.not rfl rfl) rfl rfl rfl ?_; refine LL.val (R.pick rfl rfl rfl) rfl rfl rfl ?_; refine LL.nilS ?_; refine CC.yes rfl ?_; refine CC.ret ?_; refine EE.inR ?_; refine EE.thenR ?_; refine EE.thenR ?_; refine EE.inR ?_)
          refine EE.ret [] rfl rfl ?_
          exact ⟨⟨_, rfl⟩, .inr ⟨_, _, hpart, hJx4⟩⟩
  · (refine CC.seq ?_; refine CC.seq ?_; refine CC.region ?_; refine LL.val (R.move rfl rfl) rfl rfl rfl ?_; refine LL.val (R.load rfl rfl (I.ld1 rfl (by assumption))) rfl rfl rfl ?_; refine LL.val (R.nil rfl rfl) rfl rfl rfl ?_; refine LL.val (R.field rfl rfl (I.fld rfl)) rfl rfl rfl ?_; refine LL.val (R.load rfl rfl (I.ld1 rfl (by assumption))) rfl rfl rfl ?_; refine LL.val (R.ltF rfl rfl rfl (by omega)) rfl rfl rfl ?_; refine LL.nilS ?_; refine CC.no rfl ?_; refine CC.exit ?_; refine EE.thenX ?_; refine EE.thenX ?_; refine EE.inX ?_)
    refine EE.end [] rfl rfl ?_
    refine ⟨⟨_, rfl⟩, .inl ⟨W.heap.size, _, rfl, ?_⟩⟩
    rcases hor with ⟨hkb, hJk, _⟩ | ⟨_, hJk⟩
    · obtain rfl : k = bits := by omega
      exact hJk
    · exact hJk
end Go.Proofs.Ytojoaplbgcdapaa
