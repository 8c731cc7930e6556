/- record: which records may be; laid words. -/
import Derived.Test.YtefepklacchghaaRf
import Derived.Test.YtefepklacchghaaWd
import Derived.Test.YtefepklacchghaaConvB
import Derived.Test.YtefepklacchghaaZeros
namespace Go.Proofs.Ytefepklacchghaa
set_option linter.unusedVariables false
set_option linter.unusedSimpArgs false
open Go.RowKit Go.Shelf
abbrev recV (n : Int) (l : Bs) : Value := .agg #[.int .i64 n, strV l]
abbrev okR (n : Int) (l : Bs) : Prop := (1 ≤ n ∧ n ≤ 256) ∧ nameN l = 0
set_option maxRecDepth 100000 in
set_option maxHeartbeats 2000000 in
theorem rwithin_any (a b c : Int) (w : World) : Calls Try.prog 22 #[.int .i64 a, .int .i64 b, .int .i64 c] w fun e w' => e = .returned (.bool (decide (b ≤ a ∧ a ≤ c))) ∧ w = w' := by
  refine X.fn Try.func22 rfl (n := 15) rfl rfl ?_
  refine CC.seq ?_
  refine CC.region ?_
  refine LL.val (R.assign rfl rfl) rfl rfl rfl ?_
  refine LL.nilS ?_
  refine CC.seq ?_
  refine CC.region ?_
  refine LL.val (R.move rfl rfl) rfl rfl rfl ?_
  refine LL.val (R.move rfl rfl) rfl rfl rfl ?_
  refine LL.vsplit (fun h => R.leT rfl rfl rfl h) (fun h => R.leF rfl rfl rfl (Int.not_le.1 h)) rfl rfl rfl (fun c1 => ?_) (fun c1 => ?_)
  refine LL.val (R.move rfl rfl) rfl rfl rfl ?_
  refine LL.val (R.move rfl rfl) rfl rfl rfl ?_
  refine LL.val (R.move rfl rfl) rfl rfl rfl ?_
  refine LL.vsplit (fun h => R.leT rfl rfl rfl h) (fun h => R.leF rfl rfl rfl (Int.not_le.1 h)) rfl rfl rfl (fun c2 => ?_) (fun c2 => ?_)
  refine LL.val (R.pick rfl rfl rfl) rfl rfl rfl ?_
  refine LL.val (R.assign rfl rfl) rfl rfl rfl ?_
  refine LL.nilS ?_
  refine CC.ret ?_
  refine EE.ret _ rfl rfl ?_
  exact ⟨by simp [resV]; omega, rfl⟩
  refine LL.val (R.pick rfl rfl rfl) rfl rfl rfl ?_
  refine LL.val (R.assign rfl rfl) rfl rfl rfl ?_
  refine LL.nilS ?_
  refine CC.ret ?_
  refine EE.ret _ rfl rfl ?_
  exact ⟨by simp [resV]; omega, rfl⟩
  refine LL.val (R.move rfl rfl) rfl rfl rfl ?_
  refine LL.skip rfl rfl ?_
  refine LL.skip rfl rfl ?_
  refine LL.skip rfl rfl ?_
  refine LL.val (R.pick rfl rfl rfl) rfl rfl rfl ?_
  refine LL.val (R.assign rfl rfl) rfl rfl rfl ?_
  refine LL.nilS ?_
  refine CC.ret ?_
  refine EE.ret _ rfl rfl ?_
  exact ⟨by simp [resV]; omega, rfl⟩
--C names_Check | check_any _ @p @w | ⟨rfl, @b⟩
--C ref04_Check | rcheck_any _ @w @p | S
set_option maxRecDepth 100000 in
set_option maxHeartbeats 4000000 in
theorem reck_T (n : Int) (l : Bs) (w : World) (hl : l.length ≤ 1048576) (h : okR n l) : Calls Try.prog 10 #[recV n l] w fun e w' => e = .returned (.int .i64 0) ∧ Below w.heap.size w w' := by
  have q := Below.refl w.heap.size w
  refine X.fn Try.func10 rfl (n := 13) rfl rfl ?_
  refine CC.seq ?_
  refine CC.region ?_
  refine LL.box [Value.int IntKind.i64 n, strV l] rfl rfl rfl rfl rfl ?_
  intro W2 g3 eg3 r4 z5 b1
  replace q := q.trans (b1.mono q.size)
  refine LL.val (R.assign rfl rfl) rfl rfl rfl ?_
  refine LL.nilS ?_
  refine CC.seq ?_
  refine CC.seq ?_
  refine CC.region ?_
  refine LL.val (R.field rfl rfl (I.fld rfl)) rfl rfl rfl ?_
  refine LL.val (R.load rfl rfl (I.ld1 rfl (RowL.cell r4 rfl))) rfl rfl rfl ?_
  refine LL.callDT (R.call rfl rfl rfl) rfl rfl rfl (rwithin_any _ _ _ _) (by first | assumption | omega) ?_
  refine LL.val (R.not rfl rfl) rfl rfl rfl ?_
  refine LL.val (R.move rfl rfl) rfl rfl rfl ?_
  refine LL.val (R.field rfl rfl (I.fld rfl)) rfl rfl rfl ?_
  refine LL.val (R.load rfl rfl (I.ld1 rfl (RowL.cell r4 rfl))) rfl rfl rfl ?_
  refine LL.call (R.call rfl rfl rfl) rfl rfl rfl (check_any _ (by first | assumption | omega) _) ?_
  rintro e W7 ⟨rfl, b6⟩
  refine ⟨_, rfl, ?_⟩
  have zb6 := b6.size
  replace r4 := r4.up b6
  replace b1 := b1.trans (b6.mono b1.size)
  replace q := q.trans (b6.mono q.size)
  refine LL.val (R.neF rfl rfl rfl (by omega)) rfl rfl rfl ?_
  refine LL.val (R.pick rfl rfl rfl) rfl rfl rfl ?_
  refine LL.nilS ?_
  refine CC.no rfl ?_
  refine CC.skip ?_
  refine EE.thenN ?_
  refine CC.seq ?_
  refine CC.region ?_
  refine LL.val (R.assign rfl rfl) rfl rfl rfl ?_
  refine LL.nilS ?_
  refine CC.ret ?_
  refine EE.ret _ rfl rfl ?_
  exact ⟨rfl, q⟩
set_option maxRecDepth 100000 in
set_option maxHeartbeats 4000000 in
theorem reck_F (n : Int) (l : Bs) (w : World) (hl : l.length ≤ 1048576) (h : ¬okR n l) : Calls Try.prog 10 #[recV n l] w fun e w' => e = .returned (.int .i64 250) ∧ Below w.heap.size w w' := by
  have q := Below.refl w.heap.size w
  by_cases h1 : 1 ≤ n ∧ n ≤ 256
  · have h2 : nameN l ≠ 0 := fun e => h ⟨h1, e⟩
    refine X.fn Try.func10 rfl (n := 13) rfl rfl ?_
    refine CC.seq ?_
    refine CC.region ?_
    refine LL.box [Value.int IntKind.i64 n, strV l] rfl rfl rfl rfl rfl ?_
    intro W2 g3 eg3 r4 z5 b1
    replace q := q.trans (b1.mono q.size)
    refine LL.val (R.assign rfl rfl) rfl rfl rfl ?_
    refine LL.nilS ?_
    refine CC.seq ?_
    refine CC.seq ?_
    refine CC.region ?_
    refine LL.val (R.field rfl rfl (I.fld rfl)) rfl rfl rfl ?_
    refine LL.val (R.load rfl rfl (I.ld1 rfl (RowL.cell r4 rfl))) rfl rfl rfl ?_
    refine LL.callDT (R.call rfl rfl rfl) rfl rfl rfl (rwithin_any _ _ _ _) (by first | assumption | omega) ?_
    refine LL.val (R.not rfl rfl) rfl rfl rfl ?_
    refine LL.val (R.move rfl rfl) rfl rfl rfl ?_
    refine LL.val (R.field rfl rfl (I.fld rfl)) rfl rfl rfl ?_
    refine LL.val (R.load rfl rfl (I.ld1 rfl (RowL.cell r4 rfl))) rfl rfl rfl ?_
    refine LL.call (R.call rfl rfl rfl) rfl rfl rfl (check_any _ (by first | assumption | omega) _) ?_
    rintro e W7 ⟨rfl, b6⟩
    refine ⟨_, rfl, ?_⟩
    have zb6 := b6.size
    replace r4 := r4.up b6
    replace b1 := b1.trans (b6.mono b1.size)
    replace q := q.trans (b6.mono q.size)
    refine LL.val (R.neT rfl rfl rfl (by omega)) rfl rfl rfl ?_
    refine LL.val (R.pick rfl rfl rfl) rfl rfl rfl ?_
    refine LL.nilS ?_
    refine CC.yes rfl ?_
    refine CC.seq ?_
    refine CC.region ?_
    refine LL.val (R.assign rfl rfl) rfl rfl rfl ?_
    refine LL.nilS ?_
    refine CC.ret ?_
    refine EE.thenR ?_
    refine EE.ret _ rfl rfl ?_
    exact ⟨rfl, q⟩
  · refine X.fn Try.func10 rfl (n := 13) rfl rfl ?_
    refine CC.seq ?_
    refine CC.region ?_
    refine LL.box [Value.int IntKind.i64 n, strV l] rfl rfl rfl rfl rfl ?_
    intro Wa2 ga3 ega3 ra4 za5 ba1
    replace q := q.trans (ba1.mono q.size)
    refine LL.val (R.assign rfl rfl) rfl rfl rfl ?_
    refine LL.nilS ?_
    refine CC.seq ?_
    refine CC.seq ?_
    refine CC.region ?_
    refine LL.val (R.field rfl rfl (I.fld rfl)) rfl rfl rfl ?_
    refine LL.val (R.load rfl rfl (I.ld1 rfl (RowL.cell ra4 rfl))) rfl rfl rfl ?_
    refine LL.callDF (R.call rfl rfl rfl) rfl rfl rfl (rwithin_any _ _ _ _) (by first | assumption | omega) ?_
    refine LL.val (R.not rfl rfl) rfl rfl rfl ?_
    refine LL.val (R.move rfl rfl) rfl rfl rfl ?_
    refine LL.skip rfl rfl ?_
    refine LL.skip rfl rfl ?_
    refine LL.skip rfl rfl ?_
    refine LL.skip rfl rfl ?_
    refine LL.val (R.pick rfl rfl rfl) rfl rfl rfl ?_
    refine LL.nilS ?_
    refine CC.yes rfl ?_
    refine CC.seq ?_
    refine CC.region ?_
    refine LL.val (R.assign rfl rfl) rfl rfl rfl ?_
    refine LL.nilS ?_
    refine CC.ret ?_
    refine EE.thenR ?_
    refine EE.ret _ rfl rfl ?_
    exact ⟨rfl, q⟩
set_option maxRecDepth 100000 in
set_option maxHeartbeats 4000000 in
theorem rreck_T (n : Int) (l : Bs) (w : World) (hl : l.length ≤ 1048576) (h : okR n l) : Calls Try.prog 11 #[recV n l] w fun e w' => e = .returned (.int .i64 0) ∧ Below w.heap.size w w' := by
  have q := Below.refl w.heap.size w
  refine X.fn Try.func11 rfl (n := 17) rfl rfl ?_
  refine CC.seq ?_
  refine CC.region ?_
  refine LL.box [Value.int IntKind.i64 n, strV l] rfl rfl rfl rfl rfl ?_
  intro W2 g3 eg3 r4 z5 b1
  replace q := q.trans (b1.mono q.size)
  refine LL.val (R.assign rfl rfl) rfl rfl rfl ?_
  refine LL.nilS ?_
  refine CC.seq ?_
  refine CC.seq ?_
  refine CC.region ?_
  refine LL.val (R.field rfl rfl (I.fld rfl)) rfl rfl rfl ?_
  refine LL.val (R.load rfl rfl (I.ld1 rfl (RowL.cell r4 rfl))) rfl rfl rfl ?_
  refine LL.val (R.ltF rfl rfl rfl (by omega)) rfl rfl rfl ?_
  refine LL.val (R.move rfl rfl) rfl rfl rfl ?_
  refine LL.val (R.field rfl rfl (I.fld rfl)) rfl rfl rfl ?_
  refine LL.val (R.load rfl rfl (I.ld1 rfl (RowL.cell r4 rfl))) rfl rfl rfl ?_
  refine LL.val (R.gtF rfl rfl rfl (by omega)) rfl rfl rfl ?_
  refine LL.val (R.pick rfl rfl rfl) rfl rfl rfl ?_
  refine LL.val (R.move rfl rfl) rfl rfl rfl ?_
  refine LL.val (R.field rfl rfl (I.fld rfl)) rfl rfl rfl ?_
  refine LL.val (R.load rfl rfl (I.ld1 rfl (RowL.cell r4 rfl))) rfl rfl rfl ?_
  refine LL.call (R.call rfl rfl rfl) rfl rfl rfl (rcheck_any _ _ (by first | assumption | omega)) ?_
  rintro e W' ⟨rfl, rfl⟩
  refine ⟨_, rfl, ?_⟩
  refine LL.val (R.neF rfl rfl rfl (by omega)) rfl rfl rfl ?_
  refine LL.val (R.pick rfl rfl rfl) rfl rfl rfl ?_
  refine LL.nilS ?_
  refine CC.no rfl ?_
  refine CC.skip ?_
  refine EE.thenN ?_
  refine CC.seq ?_
  refine CC.region ?_
  refine LL.val (R.assign rfl rfl) rfl rfl rfl ?_
  refine LL.nilS ?_
  refine CC.ret ?_
  refine EE.ret _ rfl rfl ?_
  exact ⟨rfl, q⟩
set_option maxRecDepth 100000 in
set_option maxHeartbeats 4000000 in
theorem rreck_F (n : Int) (l : Bs) (w : World) (hl : l.length ≤ 1048576) (h : ¬okR n l) : Calls Try.prog 11 #[recV n l] w fun e w' => e = .returned (.int .i64 250) ∧ Below w.heap.size w w' := by
  have q := Below.refl w.heap.size w
  by_cases h1 : 1 ≤ n ∧ n ≤ 256
  · have h2 : nameN l ≠ 0 := fun e => h ⟨h1, e⟩
    refine X.fn Try.func11 rfl (n := 17) rfl rfl ?_
    refine CC.seq ?_
    refine CC.region ?_
    refine LL.box [Value.int IntKind.i64 n, strV l] rfl rfl rfl rfl rfl ?_
    intro W2 g3 eg3 r4 z5 b1
    replace q := q.trans (b1.mono q.size)
    refine LL.val (R.assign rfl rfl) rfl rfl rfl ?_
    refine LL.nilS ?_
    refine CC.seq ?_
    refine CC.seq ?_
    refine CC.region ?_
    refine LL.val (R.field rfl rfl (I.fld rfl)) rfl rfl rfl ?_
    refine LL.val (R.load rfl rfl (I.ld1 rfl (RowL.cell r4 rfl))) rfl rfl rfl ?_
    refine LL.val (R.ltF rfl rfl rfl (by omega)) rfl rfl rfl ?_
    refine LL.val (R.move rfl rfl) rfl rfl rfl ?_
    refine LL.val (R.field rfl rfl (I.fld rfl)) rfl rfl rfl ?_
    refine LL.val (R.load rfl rfl (I.ld1 rfl (RowL.cell r4 rfl))) rfl rfl rfl ?_
    refine LL.val (R.gtF rfl rfl rfl (by omega)) rfl rfl rfl ?_
    refine LL.val (R.pick rfl rfl rfl) rfl rfl rfl ?_
    refine LL.val (R.move rfl rfl) rfl rfl rfl ?_
    refine LL.val (R.field rfl rfl (I.fld rfl)) rfl rfl rfl ?_
    refine LL.val (R.load rfl rfl (I.ld1 rfl (RowL.cell r4 rfl))) rfl rfl rfl ?_
    refine LL.call (R.call rfl rfl rfl) rfl rfl rfl (rcheck_any _ _ (by first | assumption | omega)) ?_
    rintro e W' ⟨rfl, rfl⟩
    refine ⟨_, rfl, ?_⟩
    refine LL.val (R.neT rfl rfl rfl (by omega)) rfl rfl rfl ?_
    refine LL.val (R.pick rfl rfl rfl) rfl rfl rfl ?_
    refine LL.nilS ?_
    refine CC.yes rfl ?_
    refine CC.seq ?_
    refine CC.region ?_
    refine LL.val (R.assign rfl rfl) rfl rfl rfl ?_
    refine LL.nilS ?_
    refine CC.ret ?_
    refine EE.thenR ?_
    refine EE.ret _ rfl rfl ?_
    exact ⟨rfl, q⟩
  · rcases (show n < 1 ∨ 256 < n by omega) with h3 | h3
    · refine X.fn Try.func11 rfl (n := 17) rfl rfl ?_
      refine CC.seq ?_
      refine CC.region ?_
      refine LL.box [Value.int IntKind.i64 n, strV l] rfl rfl rfl rfl rfl ?_
      intro Wa2 ga3 ega3 ra4 za5 ba1
      replace q := q.trans (ba1.mono q.size)
      refine LL.val (R.assign rfl rfl) rfl rfl rfl ?_
      refine LL.nilS ?_
      refine CC.seq ?_
      refine CC.seq ?_
      refine CC.region ?_
      refine LL.val (R.field rfl rfl (I.fld rfl)) rfl rfl rfl ?_
      refine LL.val (R.load rfl rfl (I.ld1 rfl (RowL.cell ra4 rfl))) rfl rfl rfl ?_
      refine LL.val (R.ltT rfl rfl rfl (by omega)) rfl rfl rfl ?_
      refine LL.val (R.move rfl rfl) rfl rfl rfl ?_
      refine LL.skip rfl rfl ?_
      refine LL.skip rfl rfl ?_
      refine LL.skip rfl rfl ?_
      refine LL.val (R.pick rfl rfl rfl) rfl rfl rfl ?_
      refine LL.val (R.move rfl rfl) rfl rfl rfl ?_
      refine LL.skip rfl rfl ?_
      refine LL.skip rfl rfl ?_
      refine LL.skip rfl rfl ?_
      refine LL.skip rfl rfl ?_
      refine LL.val (R.pick rfl rfl rfl) rfl rfl rfl ?_
      refine LL.nilS ?_
      refine CC.yes rfl ?_
      refine CC.seq ?_
      refine CC.region ?_
      refine LL.val (R.assign rfl rfl) rfl rfl rfl ?_
      refine LL.nilS ?_
      refine CC.ret ?_
      refine EE.thenR ?_
      refine EE.ret _ rfl rfl ?_
      exact ⟨rfl, q⟩
    · refine X.fn Try.func11 rfl (n := 17) rfl rfl ?_
      refine CC.seq ?_
      refine CC.region ?_
      refine LL.box [Value.int IntKind.i64 n, strV l] rfl rfl rfl rfl rfl ?_
      intro Wb2 gb3 egb3 rb4 zb5 bb1
      replace q := q.trans (bb1.mono q.size)
      refine LL.val (R.assign rfl rfl) rfl rfl rfl ?_
      refine LL.nilS ?_
      refine CC.seq ?_
      refine CC.seq ?_
      refine CC.region ?_
      refine LL.val (R.field rfl rfl (I.fld rfl)) rfl rfl rfl ?_
      refine LL.val (R.load rfl rfl (I.ld1 rfl (RowL.cell rb4 rfl))) rfl rfl rfl ?_
      refine LL.val (R.ltF rfl rfl rfl (by omega)) rfl rfl rfl ?_
      refine LL.val (R.move rfl rfl) rfl rfl rfl ?_
      refine LL.val (R.field rfl rfl (I.fld rfl)) rfl rfl rfl ?_
      refine LL.val (R.load rfl rfl (I.ld1 rfl (RowL.cell rb4 rfl))) rfl rfl rfl ?_
      refine LL.val (R.gtT rfl rfl rfl (by omega)) rfl rfl rfl ?_
      refine LL.val (R.pick rfl rfl rfl) rfl rfl rfl ?_
      refine LL.val (R.move rfl rfl) rfl rfl rfl ?_
      refine LL.skip rfl rfl ?_
      refine LL.skip rfl rfl ?_
      refine LL.skip rfl rfl ?_
      refine LL.skip rfl rfl ?_
      refine LL.val (R.pick rfl rfl rfl) rfl rfl rfl ?_
      refine LL.nilS ?_
      refine CC.yes rfl ?_
      refine CC.seq ?_
      refine CC.region ?_
      refine LL.val (R.assign rfl rfl) rfl rfl rfl ?_
      refine LL.nilS ?_
      refine CC.ret ?_
      refine EE.thenR ?_
      refine EE.ret _ rfl rfl ?_
      exact ⟨rfl, q⟩
theorem owns_at {w : World} {e base n : Nat} {v : Value} {xs : List Value} (h : w.ownsRow base e 1 v n xs) (hn : 0 < n) : ∃ g cap, v = .slice (some ⟨g, 0, none⟩) n cap ∧ base ≤ g ∧ g < w.heap.size ∧ n ≤ cap := by
  rcases id h.2 with ⟨rfl, e1⟩ | ⟨g, cap, cur, rfl, hbg, hg, hnc, hcm, hcs, htake⟩
  · omega
  · exact ⟨g, cap, rfl, hbg, (Array.getElem?_eq_some_iff.1 hg).1, hnc⟩
/-- append(s, make([]T, 0)...). -/
theorem run_append_none {P : Program} {T TI e : TypeId} {z : Value} {bytes : Nat} {kn : IntKind} {w : World} (I : El P T e z bytes) (htn : P.underlying TI = some (.int kn)) (ty : TypeId) (g n cap : Nat) (h : n ≤ cap) : (Builtin.append_ #[T, TI] ty #[.slice (some ⟨g, 0, none⟩) n cap, .int .i64 0]).run P w = .ok (.slice (some ⟨g, 0, none⟩) n cap) w := by
  obtain ⟨i, hi, hz, hsize, hby⟩ := I.info
  have hw : IntKind.i64.wrap 0 = 0 := by decide
  have h48 : ¬ ((281474976710656 : Int) < 0 * (i.bytes : Int)) := by omega
  simp [Builtin.append_, run_underlying I.under, run_underlying htn, sizeOf, typeInfo, zeroValue, hi, hz, asInt, asIntOf, hw, hsize, h, storeCells]
theorem LL.zeros0 {P : Program} {T TI e : TypeId} {z : Value} {bytes : Nat} {kn : IntKind} {w : World} {o : Oper} {n : Nat} {D : List Deferred} {M : Slots} {r : Option Nat} {ops : Array Oper} {Q : Exit → Act → World → Prop} {rest : List Oper} {xs : Array Operand} {g m cap : Nat} (ho : o.op = .call { callee := .builtin .append, args := xs, argTypes := #[T, TI] }) (hx : evsM M xs.toList = some [.slice (some ⟨g, 0, none⟩) m cap, .int .i64 0]) (I : El P T e z bytes) (htn : P.underlying TI = some (.int kn)) (h : m ≤ cap) (hd : dstB n o.dst = true) (hg : wantB ops M o.guard = some true)
    (k : LL r P ops Q n D (putM M o.dst (.slice (some ⟨g, 0, none⟩) m cap)) rest w) : LL r P ops Q n D M (o :: rest) w := by
  refine LL.val (R.builtin ho hx fun b => ?_) hd (by rw [ho]; rfl) hg k
  unfold builtin
  simp only [Sem.run_bind, run_append_none I htn _ g m cap h, Result.andThen_ok, Sem.run_pure]
/-- Words, and noughts behind them. -/
def padL (ws : List Nat) : List Nat := ws ++ List.replicate (16 - ws.length) 0
set_option maxRecDepth 100000 in
set_option maxHeartbeats 4000000 in
theorem lay16_any (v : Value) (ws : List Nat) (m base : Nat) (w : World) (h : w.ownsRow base 38 1 v m (ints .u64 ws)) (h0 : 0 < m) (hm : m ≤ 16) (hb : base ≤ w.heap.size) : Calls Try.prog 19 #[v] w fun e w' => ∃ v', e = .returned v' ∧ w'.ownsRow base 38 1 v' 16 (ints .u64 (padL ws)) ∧ Below base w w' := by
  obtain ⟨a, cap, rfl, hc, _⟩ := (reads_of_owns h).form
  have hl := h.1
  simp only [List.length_map, Nat.mul_one] at hl
  simp only [List.length_map] at *
  subst hl
  by_cases h16 : ws.length = 16
  · obtain ⟨g, cp, e1, hbg, hgl, hcp⟩ := owns_at h h0
    cases e1
    refine X.fn Try.func19 rfl (n := 8) rfl rfl ?_
    refine CC.seq ?_
    refine CC.region ?_
    refine LL.val (R.assign rfl rfl) rfl rfl rfl ?_
    refine LL.nilS ?_
    refine CC.seq ?_
    refine CC.region ?_
    refine LL.val (R.move rfl rfl) rfl rfl rfl ?_
    refine LL.val (R.move rfl rfl) rfl rfl rfl ?_
    refine LL.val (R.len rfl rfl rfl rfl) rfl rfl rfl ?_
    refine LL.val (R.subIz (z := 0) rfl rfl rfl (by omega) (by decide)) rfl rfl rfl ?_
    refine LL.zeros0 rfl rfl El64 Try.underlying3 (by omega) rfl rfl ?_
    refine LL.val (R.assign rfl rfl) rfl rfl rfl ?_
    refine LL.nilS ?_
    refine CC.ret ?_
    refine EE.ret _ rfl rfl ?_
    refine ⟨_, rfl, ?_, (Below.refl w.heap.size w).mono hb⟩
    rw [show padL ws = ws by simp [padL, h16]]
    rw [h16] at h ⊢
    exact h
  refine X.fn Try.func19 rfl (n := 8) rfl rfl ?_
  refine CC.seq ?_
  refine CC.region ?_
  refine LL.val (R.assign rfl rfl) rfl rfl rfl ?_
  refine LL.nilS ?_
  refine CC.seq ?_
  refine CC.region ?_
  refine LL.val (R.move rfl rfl) rfl rfl rfl ?_
  refine LL.val (R.move rfl rfl) rfl rfl rfl ?_
  refine LL.val (R.len rfl rfl rfl rfl) rfl rfl rfl ?_
  refine LL.val (R.subcN rfl rfl rfl rfl (by omega) (by omega)) rfl rfl rfl ?_
  refine LL.zeros (m := 16 - ws.length) rfl rfl El64 Try.underlying3 rfl h (by omega) (by simp [maxLen]; omega) (by omega) hb rfl rfl ?_
  intro v' w' o1 g1 l1
  refine LL.val (R.assign rfl rfl) rfl rfl rfl ?_
  refine LL.nilS ?_
  refine CC.ret ?_
  refine EE.ret _ rfl rfl ?_
  rw [show ws.length + (16 - ws.length) = 16 by omega] at o1
  refine ⟨v', rfl, ?_, owns_bel h g1 hb⟩
  rw [show ints .u64 (padL ws) = ints .u64 ws ++ List.replicate (16 - ws.length) (.int .u64 0) by simp [ints, padL]]
  exact o1
end Go.Proofs.Ytefepklacchghaa
