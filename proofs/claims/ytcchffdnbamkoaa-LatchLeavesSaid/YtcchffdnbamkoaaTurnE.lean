/- Turns: how they lie; equal ones; small functions over slices of turns. -/
import Derived.Test.YtcchffdnbamkoaaProg
import Derived.Test.YtcchffdnbamkoaaTRows
import Derived.Laws.StructEq
import Derived.WalkKit
import Derived.IntWalk
import Derived.Lib.Hide
import Derived.OneCell
import Derived.Tactics
import Derived.Tactics2
namespace Go.Proofs.Ytcchffdnbamkoaa
set_option linter.unusedVariables false
set_option linter.unusedSimpArgs false
open Go.RowKit Go.Shelf

/-- A turn: who, and whether to write. -/
abbrev Tn := Nat × Bool
def tE (t : Tn) : List Value := [.int .i64 (t.1 : Int), .bool t.2]
theorem tEnc : Enc tE 2 := ⟨fun _ => rfl, fun t u hu => by
  simp only [tE, List.mem_cons, List.not_mem_nil, or_false] at hu
  rcases hu with rfl | rfl <;> rfl, by decide⟩
theorem info_parts_t {P : Program} {T e : TypeId} {z : Value} {k bytes : Nat} (hu : P.underlying T = some (.slice e)) (h : (P.info? e).map (fun i => (i.zero, i.size, i.bytes)) = some (some z, k, bytes)) (hz : z.cells.size = k) : ElT P T e z k bytes := by
  refine ⟨hu, ?_, hz⟩
  cases hi : P.info? e with
  | none => rw [hi] at h; cases h
  | some i =>
    rw [hi] at h
    simp only [Option.map_some, Option.some.injEq, Prod.mk.injEq] at h
    exact ⟨i, rfl, h.1, h.2.1, h.2.2⟩
theorem Try.infoTurn : (Try.prog.info? 51).map (fun i => (i.zero, i.size, i.bytes)) = some (some (.agg #[.int .i64 0, .bool false]), 2, 16) := by kernel_rfl
theorem ElTurn : ElT Try.prog 26 51 (.agg #[.int .i64 0, .bool false]) 2 16 := info_parts_t Try.underlying26 Try.infoTurn rfl

theorem eqTurn (a c : Int) (b d : Bool) (w : World) : (Op.equalIn 10000 51 (.agg #[.int .i64 a, .bool b]) (.agg #[.int .i64 c, .bool d])).run Try.prog w = .ok (a == c && b == d) w := by
  have u3 := Try.underlying3
  have u4 := Try.underlying4
  have a3 := Try.isAgg3
  have z3 := Try.sizeOf3
  have a4 := Try.isAgg4
  have z4 := Try.sizeOf4
  have hS : Try.prog.underlying 51 = some (.struct (Try.prog.fieldsOf 51)) := by kernel_rfl
  rw [show (10000 : Nat) = 9999 + 1 from rfl, run_equalIn_agg w 9999 51 _ _ hS (by kernel_rfl)]
  simp only [Program.fieldsOf, Try.underlying51]
  go_simp
  by_cases h1 : a = c <;> by_cases h2 : b = d <;> simp [h1, h2]
theorem R.neTurn {n : Nat} {D : List Deferred} {M : Slots} {w : World} {o : Oper} {x y : Operand} {u : TypeId} {s t : Tn} {b : Bool} (ho : o.op = .binOp .neq 51 x y u) (hx : evM M x = some (.agg (tE s).toArray)) (hy : evM M y = some (.agg (tE t).toArray)) (hb : (!decide (s = t)) = b) : Runs Try.prog n D M o w (.value (.bool b)) w := R.bin ho hx hy (by
  subst hb
  simp only [Sem.run_bind, tE, run_eqGuard_agg w _ _ _ _ _ _ (show Try.prog.eqGuardType Try.prog.depth 51 = false by kernel_rfl), Result.andThen_ok, run_neq_struct, eqTurn]
  obtain ⟨s1, s2⟩ := s
  obtain ⟨t1, t2⟩ := t
  have e1 : (((s1 : Nat) : Int) == ((t1 : Nat) : Int)) = decide (s1 = t1) := by
    rw [Bool.eq_iff_iff]
    simp only [beq_iff_eq, decide_eq_true_eq]
    exact ⟨fun h => by omega, fun h => by omega⟩
  simp only [e1]
  by_cases h1 : s1 = t1 <;> by_cases h2 : s2 = t2 <;> simp [h1, h2])

abbrev ReadsTn (w : World) (v : Value) (ts : List Tn) : Prop := ReadsT tE 2 w v ts

set_option maxRecDepth 100000 in
set_option maxHeartbeats 2000000 in
/-- The document's Same. -/
theorem rsame_any (va vb : Value) (xs ys : List Tn) (w : World) (ha : ReadsTn w va xs) (hb : ReadsTn w vb ys) (hlx : xs.length ≤ 1048576) (hly : ys.length ≤ 1048576) :
    Calls Try.prog 16 #[va, vb] w fun e w' => e = .returned (.bool (decide (xs = ys))) ∧ Below w.heap.size w w' := by
  obtain ⟨N, hN⟩ : ∃ N, xs.length = N := ⟨_, rfl⟩
  obtain ⟨N2, hN2⟩ : ∃ N, ys.length = N := ⟨_, rfl⟩
  obtain ⟨a, cap, rfl, hc⟩ := ha.form hN
  obtain ⟨a2, cap2, rfl, hc2⟩ := hb.form hN2
  rw [hN] at hlx
  rw [hN2] at hly
  refine X.fn Try.func16 rfl (n := 26) rfl rfl ?_
  by_cases hne : N = N2
  · subst hne
    (refine CC.seq ?_; refine CC.region ?_; refine LL.val (R.assign rfl rfl) rfl rfl rfl ?_; refine LL.nilS ?_; refine CC.seq ?_; refine CC.seq ?_; refine CC.region ?_; refine LL.val (R.move rfl rfl) rfl rfl rfl ?_; refine LL.val (R.len rfl rfl rfl rfl) rfl rfl rfl ?_; refine LL.val (R.move rfl rfl) rfl rfl rfl ?_; refine LL.val (R.len rfl rfl rfl rfl) rfl rfl rfl ?_; refine LL.val (R.neF rfl rfl rfl (by omega)) rfl rfl rfl ?_; refine LL.nilS ?_; refine CC.no rfl ?_; refine CC.skip ?_; refine EE.thenN ?_; refine CC.seq ?_; refine CC.seq ?_; refine CC.region ?_; refine LL.val (R.assign rfl rfl) rfl rfl rfl ?_; refine LL.nilS ?_; refine CC.block ?_)
    refine CC.loop (α := Nat) (fun i => [(0, .slice a N cap), (1, .slice a2 N cap2), (4, .bool false), (5, .int .i64 (i : Int))]) (fun i wr => Below w.heap.size w wr ∧ i ≤ N ∧ xs.take i = ys.take i) (fun i => N - i) 0 ⟨rfl, rfl, rfl, rfl, trivial⟩ ⟨Below.refl _ _, by omega, by simp⟩ ?_
    intro i wr ⟨hbw, hi, ht⟩
    by_cases h1 : i < N
    · obtain ⟨s, hs⟩ : ∃ s, xs[i]? = some s := ⟨_, List.getElem?_eq_getElem (by omega)⟩
      obtain ⟨t, ht2⟩ : ∃ t, ys[i]? = some t := ⟨_, List.getElem?_eq_getElem (by omega)⟩
      obtain ⟨b, off, rfl, hbl, hcs⟩ := ha.get tEnc hs
      obtain ⟨b2, off2, rfl, hbl2, hcs2⟩ := hb.get tEnc ht2
      have hc1 := hcs.below hbw.drew hbl
      have hc3 := hcs2.below hbw.drew hbl2
      (refine CC.seq ?_; refine CC.seq ?_; refine CC.region ?_; refine LL.val (R.move rfl rfl) rfl rfl rfl ?_; refine LL.val (R.move rfl rfl) rfl rfl rfl ?_; refine LL.val (R.len rfl rfl rfl rfl) rfl rfl rfl ?_; refine LL.val (R.ltT rfl rfl rfl (by omega)) rfl rfl rfl ?_; refine LL.nilS ?_; refine CC.yes rfl ?_; refine CC.skip ?_; refine EE.thenN ?_; refine CC.seq ?_; refine CC.block ?_; refine CC.seq ?_)
      refine CC.quiet (by kernel_rfl) (by kernel_rfl) ?_
      (refine SS.val (R.move rfl rfl) rfl rfl ?_; refine SS.val (R.move rfl rfl) rfl rfl ?_; refine SS.val (R.index rfl rfl rfl (I.ixS rfl (by omega))) rfl rfl ?_)
      refine SS.val (R.load rfl rfl (I.ldN (vs := tE s) rfl rfl hc1)) rfl rfl ?_
      (refine SS.val (R.move rfl rfl) rfl rfl ?_; refine SS.val (R.move rfl rfl) rfl rfl ?_; refine SS.val (R.index rfl rfl rfl (I.ixS rfl (by omega))) rfl rfl ?_)
      refine SS.val (R.load rfl rfl (I.ldN (vs := tE t) rfl rfl hc3)) rfl rfl ?_
      by_cases hst : s = t
      · refine SS.val (R.neTurn (b := false) rfl rfl rfl (by simp [hst])) rfl rfl ?_
        (refine SS.nilQ ?_)
        (refine EE.thenN ?_; refine CC.no rfl ?_; refine CC.skip ?_; refine EE.inN ?_; refine EE.thenN ?_; refine CC.region ?_; refine LL.val (R.move rfl rfl) rfl rfl rfl ?_; refine LL.val (R.addNc rfl rfl rfl rfl (by omega)) rfl rfl rfl ?_; refine LL.val (R.assign rfl rfl) rfl rfl rfl ?_; refine LL.nil ?_)
        exact EE.round (i + 1) ⟨rfl, rfl, rfl, rfl, trivial⟩ ⟨hbw.drew, by omega, by rw [List.take_add_one, List.take_add_one, ht, hs, ht2, hst]⟩ (by omega)
      · refine SS.val (R.neTurn (b := true) rfl rfl rfl (by simp [hst])) rfl rfl ?_
        (refine SS.nilQ ?_)
        (refine EE.thenN ?_; refine CC.yes rfl ?_; refine CC.seq ?_; refine CC.region ?_; refine LL.val (R.assign rfl rfl) rfl rfl rfl ?_; refine LL.nilS ?_; refine CC.ret ?_; refine EE.inR ?_; refine EE.thenR ?_; refine EE.thenR ?_; refine EE.inR ?_; refine EE.thenR ?_)
        refine EE.ret _ rfl rfl ?_
        refine ⟨?_, hbw.drew⟩
        have : xs ≠ ys := fun e => hst (by rw [e, ht2] at hs; exact (Option.some.inj hs).symm)
        simp [resV, this]
    · obtain rfl : i = N := by omega
      rw [List.take_of_length_le (by omega), List.take_of_length_le (by omega)] at ht
      (refine CC.seq ?_; refine CC.seq ?_; refine CC.region ?_; refine LL.val (R.move rfl rfl) rfl rfl rfl ?_; refine LL.val (R.move rfl rfl) rfl rfl rfl ?_; refine LL.val (R.len rfl rfl rfl rfl) rfl rfl rfl ?_; refine LL.val (R.ltF rfl rfl rfl (by omega)) rfl rfl rfl ?_; refine LL.nilS ?_; refine CC.no rfl ?_; refine CC.exit ?_; refine EE.thenX ?_; refine EE.thenX ?_; refine EE.inX ?_; refine EE.thenN ?_; refine CC.seq ?_; refine CC.region ?_; refine LL.val (R.assign rfl rfl) rfl rfl rfl ?_; refine LL.nilS ?_; refine CC.ret ?_)
      refine EE.ret _ rfl rfl ?_
      exact ⟨by simp [resV, ht], hbw⟩
  · (refine CC.seq ?_; refine CC.region ?_; refine LL.val (R.assign rfl rfl) rfl rfl rfl ?_; refine LL.nilS ?_; refine CC.seq ?_; refine CC.seq ?_; refine CC.region ?_; refine LL.val (R.move rfl rfl) rfl rfl rfl ?_; refine LL.val (R.len rfl rfl rfl rfl) rfl rfl rfl ?_; refine LL.val (R.move rfl rfl) rfl rfl rfl ?_; refine LL.val (R.len rfl rfl rfl rfl) rfl rfl rfl ?_; refine LL.val (R.neT rfl rfl rfl (by omega)) rfl rfl rfl ?_; refine LL.nilS ?_; refine CC.yes rfl ?_; refine CC.seq ?_; refine CC.region ?_; refine LL.val (R.assign rfl rfl) rfl rfl rfl ?_; refine LL.nilS ?_; refine CC.ret ?_; refine EE.thenR ?_)
    refine EE.ret _ rfl rfl ?_
    have : xs ≠ ys := fun e => hne (by rw [← hN, ← hN2, e])
    exact ⟨by simp [resV, this], Below.refl _ _⟩

set_option maxRecDepth 100000 in
set_option maxHeartbeats 2000000 in
/-- slices.Equal. -/
theorem equal_any (va vb : Value) (xs ys : List Tn) (w : World) (ha : ReadsTn w va xs) (hb : ReadsTn w vb ys) (hlx : xs.length ≤ 1048576) (hly : ys.length ≤ 1048576) :
    Calls Try.prog 27 #[va, vb] w fun e w' => e = .returned (.bool (decide (xs = ys))) ∧ Below w.heap.size w w' := by
  obtain ⟨N, hN⟩ : ∃ N, xs.length = N := ⟨_, rfl⟩
  obtain ⟨N2, hN2⟩ : ∃ N, ys.length = N := ⟨_, rfl⟩
  obtain ⟨a, cap, rfl, hc⟩ := ha.form hN
  obtain ⟨a2, cap2, rfl, hc2⟩ := hb.form hN2
  rw [hN] at hlx
  rw [hN2] at hly
  refine X.fn Try.func27 rfl (n := 26) rfl rfl ?_
  by_cases hne : N = N2
  · subst hne
    (refine CC.seq ?_; refine CC.region ?_; refine LL.val (R.assign rfl rfl) rfl rfl rfl ?_; refine LL.nilS ?_; refine CC.seq ?_; refine CC.seq ?_; refine CC.region ?_; refine LL.val (R.move rfl rfl) rfl rfl rfl ?_; refine LL.val (R.len rfl rfl rfl rfl) rfl rfl rfl ?_; refine LL.val (R.move rfl rfl) rfl rfl rfl ?_; refine LL.val (R.len rfl rfl rfl rfl) rfl rfl rfl ?_; refine LL.val (R.neF rfl rfl rfl (by omega)) rfl rfl rfl ?_; refine LL.nilS ?_; refine CC.no rfl ?_; refine CC.skip ?_; refine EE.thenN ?_; refine CC.seq ?_; refine CC.seq ?_; refine CC.region ?_; refine LL.val (R.move rfl rfl) rfl rfl rfl ?_; refine LL.val (R.len rfl rfl rfl rfl) rfl rfl rfl ?_; refine LL.val (R.move rfl rfl) rfl rfl rfl ?_; refine LL.nilS ?_; refine CC.block ?_)
    refine CC.loop (α := Nat) (fun i => [(0, .slice a N cap), (1, .slice a2 N cap2), (4, .bool false), (12, .int .i64 (N : Int)), (13, .int .i64 (i : Int))]) (fun i wr => Below w.heap.size w wr ∧ i ≤ N ∧ xs.take i = ys.take i) (fun i => N - i) 0 ⟨rfl, rfl, rfl, rfl, rfl, trivial⟩ ⟨Below.refl _ _, by omega, by simp⟩ ?_
    intro i wr ⟨hbw, hi, ht⟩
    by_cases h1 : i < N
    · obtain ⟨s, hs⟩ : ∃ s, xs[i]? = some s := ⟨_, List.getElem?_eq_getElem (by omega)⟩
      obtain ⟨t, ht2⟩ : ∃ t, ys[i]? = some t := ⟨_, List.getElem?_eq_getElem (by omega)⟩
      obtain ⟨b, off, rfl, hbl, hcs⟩ := ha.get tEnc hs
      obtain ⟨b2, off2, rfl, hbl2, hcs2⟩ := hb.get tEnc ht2
      have hc1 := hcs.below hbw.drew hbl
      have hc3 := hcs2.below hbw.drew hbl2
      (refine CC.seq ?_; refine CC.region ?_; refine LL.val (R.ltT rfl rfl rfl (by omega)) rfl rfl rfl ?_; refine LL.nilS ?_; refine CC.seq ?_; refine CC.yes rfl ?_; refine CC.skip ?_; refine EE.thenN ?_; refine CC.seq ?_; refine CC.block ?_; refine CC.seq ?_; refine CC.region ?_; refine LL.val (R.move rfl rfl) rfl rfl rfl ?_; refine LL.val (R.assign rfl rfl) rfl rfl rfl ?_; refine LL.nilS ?_; refine CC.seq ?_)
      refine CC.quiet (by kernel_rfl) (by kernel_rfl) ?_
      (refine SS.val (R.move rfl rfl) rfl rfl ?_; refine SS.val (R.move rfl rfl) rfl rfl ?_; refine SS.val (R.index rfl rfl rfl (I.ixS rfl (by omega))) rfl rfl ?_)
      refine SS.val (R.load rfl rfl (I.ldN (vs := tE s) rfl rfl hc1)) rfl rfl ?_
      (refine SS.val (R.move rfl rfl) rfl rfl ?_; refine SS.val (R.move rfl rfl) rfl rfl ?_; refine SS.val (R.index rfl rfl rfl (I.ixS rfl (by omega))) rfl rfl ?_)
      refine SS.val (R.load rfl rfl (I.ldN (vs := tE t) rfl rfl hc3)) rfl rfl ?_
      by_cases hst : s = t
      · refine SS.val (R.neTurn (b := false) rfl rfl rfl (by simp [hst])) rfl rfl ?_
        (refine SS.nilQ ?_)
        (refine EE.thenN ?_; refine CC.no rfl ?_; refine CC.skip ?_; refine EE.inN ?_; refine EE.thenN ?_; refine CC.region ?_; refine LL.val (R.addNc rfl rfl rfl rfl (by omega)) rfl rfl rfl ?_; refine LL.val (R.move rfl rfl) rfl rfl rfl ?_; refine LL.nil ?_)
        exact EE.round (i + 1) ⟨rfl, rfl, rfl, rfl, rfl, trivial⟩ ⟨hbw.drew, by omega, by rw [List.take_add_one, List.take_add_one, ht, hs, ht2, hst]⟩ (by omega)
      · refine SS.val (R.neTurn (b := true) rfl rfl rfl (by simp [hst])) rfl rfl ?_
        (refine SS.nilQ ?_)
        (refine EE.thenN ?_; refine CC.yes rfl ?_; refine CC.seq ?_; refine CC.region ?_; refine LL.val (R.assign rfl rfl) rfl rfl rfl ?_; refine LL.nilS ?_; refine CC.ret ?_; refine EE.inR ?_; refine EE.thenR ?_; refine EE.thenR ?_; refine EE.inR ?_; refine EE.thenR ?_)
        refine EE.ret _ rfl rfl ?_
        refine ⟨?_, hbw.drew⟩
        have : xs ≠ ys := fun e => hst (by rw [e, ht2] at hs; exact (Option.some.inj hs).symm)
        simp [resV, this]
    · obtain rfl : i = N := by omega
      rw [List.take_of_length_le (by omega), List.take_of_length_le (by omega)] at ht
      (refine CC.seq ?_; refine CC.region ?_; refine LL.val (R.ltF rfl rfl rfl (by omega)) rfl rfl rfl ?_; refine LL.nilS ?_; refine CC.seq ?_; refine CC.no rfl ?_; refine CC.exit ?_; refine EE.thenX ?_; refine EE.thenX ?_; refine EE.inX ?_; refine EE.thenN ?_; refine CC.seq ?_; refine CC.region ?_; refine LL.val (R.assign rfl rfl) rfl rfl rfl ?_; refine LL.nilS ?_; refine CC.ret ?_)
      refine EE.ret _ rfl rfl ?_
      exact ⟨by simp [resV, ht], hbw⟩
  · (refine CC.seq ?_; refine CC.region ?_; refine LL.val (R.assign rfl rfl) rfl rfl rfl ?_; refine LL.nilS ?_; refine CC.seq ?_; refine CC.seq ?_; refine CC.region ?_; refine LL.val (R.move rfl rfl) rfl rfl rfl ?_; refine LL.val (R.len rfl rfl rfl rfl) rfl rfl rfl ?_; refine LL.val (R.move rfl rfl) rfl rfl rfl ?_; refine LL.val (R.len rfl rfl rfl rfl) rfl rfl rfl ?_; refine LL.val (R.neT rfl rfl rfl (by omega)) rfl rfl rfl ?_; refine LL.nilS ?_; refine CC.yes rfl ?_; refine CC.seq ?_; refine CC.region ?_; refine LL.val (R.assign rfl rfl) rfl rfl rfl ?_; refine LL.nilS ?_; refine CC.ret ?_; refine EE.thenR ?_)
    refine EE.ret _ rfl rfl ?_
    have : xs ≠ ys := fun e => hne (by rw [← hN, ← hN2, e])
    exact ⟨by simp [resV, this], Below.refl _ _⟩

set_option maxRecDepth 100000 in
set_option maxHeartbeats 2000000 in
/-- The document's Has. -/
theorem rhas_any (v : Value) (xs : List Tn) (c : Int) (w : World) (ha : ReadsTn w v xs) (hlx : xs.length ≤ 1048576) :
    Calls Try.prog 22 #[v, .int .i64 c] w fun e w' => e = .returned (.bool (decide (∃ t ∈ xs, (t.1 : Int) = c))) ∧ w = w' := by
  obtain ⟨N, hN⟩ : ∃ N, xs.length = N := ⟨_, rfl⟩
  obtain ⟨a, cap, rfl, hc⟩ := ha.form hN
  rw [hN] at hlx
  refine X.fn Try.func22 rfl (n := 19) rfl rfl ?_
  (refine CC.seq ?_; refine CC.region ?_; refine LL.val (R.assign rfl rfl) rfl rfl rfl ?_; refine LL.nilS ?_; refine CC.seq ?_; refine CC.seq ?_; refine CC.region ?_; refine LL.val (R.assign rfl rfl) rfl rfl rfl ?_; refine LL.nilS ?_; refine CC.block ?_)
  refine CC.loop (α := Nat) (fun i => [(0, .slice a N cap), (1, .int .i64 c), (4, .bool false), (5, .int .i64 (i : Int))]) (fun i wr => w = wr ∧ i ≤ N ∧ ∀ t ∈ xs.take i, (t.1 : Int) ≠ c) (fun i => N - i) 0 ⟨rfl, rfl, rfl, rfl, trivial⟩ ⟨rfl, by omega, by simp⟩ ?_
  rintro i wr ⟨rfl, hi, ht⟩
  by_cases h1 : i < N
  · obtain ⟨s, hs⟩ : ∃ s, xs[i]? = some s := ⟨_, List.getElem?_eq_getElem (by omega)⟩
    obtain ⟨b, off, rfl, hbl, hcs⟩ := ha.get tEnc hs
    have hc0 := hcs.at (j := 0) (u := .int .i64 (s.1 : Int)) rfl
    by_cases hst : (s.1 : Int) = c
    · (refine CC.seq ?_; refine CC.seq ?_; refine CC.region ?_; refine LL.val (R.move rfl rfl) rfl rfl rfl ?_; refine LL.val (R.move rfl rfl) rfl rfl rfl ?_; refine LL.val (R.len rfl rfl rfl rfl) rfl rfl rfl ?_; refine LL.val (R.ltT rfl rfl rfl (by omega)) rfl rfl rfl ?_; refine LL.nilS ?_; refine CC.yes rfl ?_; refine CC.skip ?_; refine EE.thenN ?_; refine CC.seq ?_; refine CC.block ?_; refine CC.seq ?_; refine CC.region ?_; refine LL.val (R.move rfl rfl) rfl rfl rfl ?_; refine LL.val (R.move rfl rfl) rfl rfl rfl ?_; refine LL.val (R.index rfl rfl rfl (I.ixS rfl (by omega))) rfl rfl rfl ?_; refine LL.val (R.field rfl rfl (I.fld rfl)) rfl rfl rfl ?_; refine LL.val (R.load rfl rfl (I.ld1 rfl (by assumption))) rfl rfl rfl ?_; refine LL.val (R.move rfl rfl) rfl rfl rfl ?_; refine LL.val (R.eqT rfl rfl rfl (by omega)) rfl rfl rfl ?_; refine LL.nilS ?_; refine CC.yes rfl ?_; refine CC.seq ?_; refine CC.region ?_; refine LL.val (R.assign rfl rfl) rfl rfl rfl ?_; refine LL.nilS ?_; refine CC.ret ?_; refine EE.inR ?_; refine EE.thenR ?_; refine EE.thenR ?_; refine EE.inR ?_; refine EE.thenR ?_)
      refine EE.ret _ rfl rfl ?_
      have : ∃ t ∈ xs, (t.1 : Int) = c := ⟨s, List.mem_of_getElem? hs, hst⟩
      simp [resV, this]
    · (refine CC.seq ?_; refine CC.seq ?_; refine CC.region ?_; refine LL.val (R.move rfl rfl) rfl rfl rfl ?_; refine LL.val (R.move rfl rfl) rfl rfl rfl ?_; refine LL.val (R.len rfl rfl rfl rfl) rfl rfl rfl ?_; refine LL.val (R.ltT rfl rfl rfl (by omega)) rfl rfl rfl ?_; refine LL.nilS ?_; refine CC.yes rfl ?_; refine CC.skip ?_; refine EE.thenN ?_; refine CC.seq ?_; refine CC.block ?_; refine CC.seq ?_; refine CC.region ?_; refine LL.val (R.move rfl rfl) rfl rfl rfl ?_; refine LL.val (R.move rfl rfl) rfl rfl rfl ?_; refine LL.val (R.index rfl rfl rfl (I.ixS rfl (by omega))) rfl rfl rfl ?_; refine LL.val (R.field rfl rfl (I.fld rfl)) rfl rfl rfl ?_; refine LL.val (R.load rfl rfl (I.ld1 rfl (by assumption))) rfl rfl rfl ?_; refine LL.val (R.move rfl rfl) rfl rfl rfl ?_; refine LL.val (R.eqF rfl rfl rfl (by omega)) rfl rfl rfl ?_; refine LL.nilS ?_; refine CC.no rfl ?_; refine CC.skip ?_; refine EE.inN ?_; refine EE.thenN ?_; refine CC.region ?_; refine LL.val (R.move rfl rfl) rfl rfl rfl ?_; refine LL.val (R.addNc rfl rfl rfl rfl (by omega)) rfl rfl rfl ?_; refine LL.val (R.assign rfl rfl) rfl rfl rfl ?_; refine LL.nil ?_)
      refine EE.round (i + 1) ⟨rfl, rfl, rfl, rfl, trivial⟩ ⟨rfl, by omega, ?_⟩ (by omega)
      rw [List.take_add_one, hs]
      intro t h
      simp only [Option.toList_some, List.mem_append, List.mem_singleton] at h
      rcases h with h | rfl
      · exact ht t h
      · exact hst
  · obtain rfl : i = N := by omega
    rw [List.take_of_length_le (by omega)] at ht
    (refine CC.seq ?_; refine CC.seq ?_; refine CC.region ?_; refine LL.val (R.move rfl rfl) rfl rfl rfl ?_; refine LL.val (R.move rfl rfl) rfl rfl rfl ?_; refine LL.val (R.len rfl rfl rfl rfl) rfl rfl rfl ?_; refine LL.val (R.ltF rfl rfl rfl (by omega)) rfl rfl rfl ?_; refine LL.nilS ?_; refine CC.no rfl ?_; refine CC.exit ?_; refine EE.thenX ?_; refine EE.thenX ?_; refine EE.inX ?_; refine EE.thenN ?_; refine CC.seq ?_; refine CC.region ?_; refine LL.val (R.assign rfl rfl) rfl rfl rfl ?_; refine LL.nilS ?_; refine CC.ret ?_)
    refine EE.ret _ rfl rfl ?_
    have : ¬ ∃ t ∈ xs, (t.1 : Int) = c := fun ⟨t, h, e⟩ => ht t h e
    simp [resV, this]
end Go.Proofs.Ytcchffdnbamkoaa
