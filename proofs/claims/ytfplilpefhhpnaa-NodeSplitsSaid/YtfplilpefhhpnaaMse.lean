/- What the statements' walks use: Nd20, Nd21, Nd22, Nd24, Nd8, Nd25, Nd9, Nd10, Nd11, Nd12, Nd13, Nd14, Nd15, Nd16, SameU, Nd17. -/

import Derived.Test.YtfplilpefhhpnaaMsc
import Derived.Test.YtfplilpefhhpnaaMsd
/- node: the document's block, Right, Of (written by gennd20.py). -/
namespace Go.Proofs.Ytfplilpefhhpnaa
set_option linter.unusedVariables false
set_option linter.unusedSimpArgs false
open Go.RowKit Go.Shelf
set_option maxRecDepth 100000
set_option maxHeartbeats 8000000
theorem rblk_d (v : Nat) (w : World) : Calls Try.prog 29 #[.int .u64 (v : Int)] w fun e w' => e = .returned (.bool (decide (1 ≤ v ∧ v ≤ 2047))) ∧ w = w' := by
  by_cases h1 : 1 ≤ v
  · by_cases h2 : v ≤ 2047
    · rw [decide_eq_true ⟨h1, h2⟩]
      refine X.fn Try.func29 rfl (n := 9) rfl rfl ?_
      refine CC.seq ?_
      refine CC.region ?_
      refine LL.val (R.assign rfl rfl) rfl rfl rfl ?_
      refine LL.nilS ?_
      refine CC.seq ?_
      refine CC.region ?_
      refine LL.val (R.move rfl rfl) rfl rfl rfl ?_
      refine LL.val (R.geT rfl rfl rfl (by omega)) rfl rfl rfl ?_
      refine LL.val (R.move rfl rfl) rfl rfl rfl ?_
      refine LL.val (R.move rfl rfl) rfl rfl rfl ?_
      refine LL.val (R.leT rfl rfl rfl (by omega)) rfl rfl rfl ?_
      refine LL.val (R.pick rfl rfl rfl) rfl rfl rfl ?_
      refine LL.val (R.assign rfl rfl) rfl rfl rfl ?_
      refine LL.nilS ?_
      refine CC.ret ?_
      refine EE.ret _ rfl rfl ?_
      exact ⟨rfl, rfl⟩
    · rw [decide_eq_false fun h => h2 h.2]
      refine X.fn Try.func29 rfl (n := 9) rfl rfl ?_
      refine CC.seq ?_
      refine CC.region ?_
      refine LL.val (R.assign rfl rfl) rfl rfl rfl ?_
      refine LL.nilS ?_
      refine CC.seq ?_
      refine CC.region ?_
      refine LL.val (R.move rfl rfl) rfl rfl rfl ?_
      refine LL.val (R.geT rfl rfl rfl (by omega)) rfl rfl rfl ?_
      refine LL.val (R.move rfl rfl) rfl rfl rfl ?_
      refine LL.val (R.move rfl rfl) rfl rfl rfl ?_
      refine LL.val (R.leF rfl rfl rfl (by omega)) rfl rfl rfl ?_
      refine LL.val (R.pick rfl rfl rfl) rfl rfl rfl ?_
      refine LL.val (R.assign rfl rfl) rfl rfl rfl ?_
      refine LL.nilS ?_
      refine CC.ret ?_
      refine EE.ret _ rfl rfl ?_
      exact ⟨rfl, rfl⟩
  · rw [decide_eq_false fun h => h1 h.1]
    refine X.fn Try.func29 rfl (n := 9) rfl rfl ?_
    refine CC.seq ?_
    refine CC.region ?_
    refine LL.val (R.assign rfl rfl) rfl rfl rfl ?_
    refine LL.nilS ?_
    refine CC.seq ?_
    refine CC.region ?_
    refine LL.val (R.move rfl rfl) rfl rfl rfl ?_
    refine LL.val (R.geF rfl rfl rfl (by omega)) rfl rfl rfl ?_
    refine LL.val (R.move rfl rfl) rfl rfl rfl ?_
    refine LL.skip rfl rfl ?_
    refine LL.skip rfl rfl ?_
    refine LL.val (R.pick rfl rfl rfl) rfl rfl rfl ?_
    refine LL.val (R.assign rfl rfl) rfl rfl rfl ?_
    refine LL.nilS ?_
    refine CC.ret ?_
    refine EE.ret _ rfl rfl ?_
    exact ⟨rfl, rfl⟩
theorem rrt_any (l x : Nat) (b : Bool) (hb : b = true ↔ okP l x) (w : World) : Calls Try.prog 32 #[.int .i64 (l : Int), .int .u64 (x : Int)] w fun e w' => e = .returned (.bool b) ∧ w = w' := by
  unfold okP at hb
  by_cases h0 : l = 0
  · subst h0
    by_cases h1 : 1 ≤ x ∧ x ≤ 1099511627776
    · obtain rfl : b = true := hb.2 (.inl ⟨rfl, h1⟩)
      clear hb
      refine X.fn Try.func32 rfl (n := 15) rfl rfl ?_
      refine CC.seq ?_
      refine CC.region ?_
      refine LL.val (R.assign rfl rfl) rfl rfl rfl ?_
      refine LL.nilS ?_
      refine CC.seq ?_
      refine CC.seq ?_
      refine CC.region ?_
      refine LL.val (R.move rfl rfl) rfl rfl rfl ?_
      refine LL.val (R.eqT rfl rfl rfl (by omega)) rfl rfl rfl ?_
      refine LL.nilS ?_
      refine CC.yes rfl ?_
      refine CC.seq ?_
      refine CC.region ?_
      refine LL.val (R.move rfl rfl) rfl rfl rfl ?_
      refine LL.val (R.geT rfl rfl rfl (by omega)) rfl rfl rfl ?_
      refine LL.val (R.move rfl rfl) rfl rfl rfl ?_
      refine LL.val (R.move rfl rfl) rfl rfl rfl ?_
      refine LL.val (R.leT rfl rfl rfl (by omega)) rfl rfl rfl ?_
      refine LL.val (R.pick rfl rfl rfl) rfl rfl rfl ?_
      refine LL.val (R.assign rfl rfl) rfl rfl rfl ?_
      refine LL.nilS ?_
      refine CC.ret ?_
      refine EE.thenR ?_
      refine EE.ret _ rfl rfl ?_
      exact ⟨rfl, rfl⟩
    · obtain rfl : b = false := by
        cases b with
        | false => rfl
        | true => rcases hb.1 rfl with h | h <;> omega
      clear hb
      refine X.fn Try.func32 rfl (n := 15) rfl rfl ?_
      refine CC.seq ?_
      refine CC.region ?_
      refine LL.val (R.assign rfl rfl) rfl rfl rfl ?_
      refine LL.nilS ?_
      refine CC.seq ?_
      refine CC.seq ?_
      refine CC.region ?_
      refine LL.val (R.move rfl rfl) rfl rfl rfl ?_
      refine LL.val (R.eqT rfl rfl rfl (by omega)) rfl rfl rfl ?_
      refine LL.nilS ?_
      refine CC.yes rfl ?_
      refine CC.seq ?_
      refine CC.region ?_
      refine LL.val (R.move rfl rfl) rfl rfl rfl ?_
      refine LL.vsplit (fun h => R.geT rfl rfl rfl h) (fun h => R.geF rfl rfl rfl (Int.not_le.1 h)) rfl rfl rfl (fun ca1 => ?_) (fun ca1 => ?_)
      refine LL.val (R.move rfl rfl) rfl rfl rfl ?_
      refine LL.val (R.move rfl rfl) rfl rfl rfl ?_
      refine LL.val (R.leF rfl rfl rfl (by omega)) rfl rfl rfl ?_
      refine LL.val (R.pick rfl rfl rfl) rfl rfl rfl ?_
      refine LL.val (R.assign rfl rfl) rfl rfl rfl ?_
      refine LL.nilS ?_
      refine CC.ret ?_
      refine EE.thenR ?_
      refine EE.ret _ rfl rfl ?_
      exact ⟨rfl, rfl⟩
      refine LL.val (R.move rfl rfl) rfl rfl rfl ?_
      refine LL.skip rfl rfl ?_
      refine LL.skip rfl rfl ?_
      refine LL.val (R.pick rfl rfl rfl) rfl rfl rfl ?_
      refine LL.val (R.assign rfl rfl) rfl rfl rfl ?_
      refine LL.nilS ?_
      refine CC.ret ?_
      refine EE.thenR ?_
      refine EE.ret _ rfl rfl ?_
      exact ⟨rfl, rfl⟩
  · obtain rfl : b = decide (1 ≤ x ∧ x ≤ 2047) := by
      rw [Bool.eq_iff_iff, hb, decide_eq_true_eq]
      omega
    clear hb
    have hb := rblk_d x
    generalize decide (1 ≤ x ∧ x ≤ 2047) = b at hb ⊢
    refine X.fn Try.func32 rfl (n := 15) rfl rfl ?_
    refine CC.seq ?_
    refine CC.region ?_
    refine LL.val (R.assign rfl rfl) rfl rfl rfl ?_
    refine LL.nilS ?_
    refine CC.seq ?_
    refine CC.seq ?_
    refine CC.region ?_
    refine LL.val (R.move rfl rfl) rfl rfl rfl ?_
    refine LL.val (R.eqF rfl rfl rfl (by omega)) rfl rfl rfl ?_
    refine LL.nilS ?_
    refine CC.no rfl ?_
    refine CC.skip ?_
    refine EE.thenN ?_
    refine CC.seq ?_
    refine CC.region ?_
    refine LL.val (R.move rfl rfl) rfl rfl rfl ?_
    (refine LL.call (R.call rfl rfl rfl) rfl rfl rfl (hb _) ?_; rintro e @W ⟨rfl, rfl⟩; refine ⟨_, rfl, ?_⟩)
    refine LL.val (R.assign rfl rfl) rfl rfl rfl ?_
    refine LL.nilS ?_
    refine CC.ret ?_
    refine EE.ret _ rfl rfl ?_
    exact ⟨rfl, rfl⟩
theorem rrt_d (l x : Nat) (w : World) : Calls Try.prog 32 #[.int .i64 (l : Int), .int .u64 (x : Int)] w fun e w' => e = .returned (.bool (decide (okP l x))) ∧ w = w' := rrt_any l x _ decide_eq_true_iff w
section
variable {P : Program} {n : Nat} {D : List Deferred} {M : Slots} {w : World} {o : Oper} {x y : Operand} {t u : TypeId}
theorem R.subU {a b z : Nat} (ho : o.op = .binOp .sub t x y u) (hx : evM M x = some (.int .u64 (a : Int))) (hy : evM M y = some (.int .u64 (b : Int))) (e : IntKind.u64.wrap ((a : Int) - (b : Int)) = (z : Int)) : Runs P n D M o w (.value (.int .u64 (z : Int))) w :=
  R.bin ho hx hy (by simp [go_sem, e])
end
theorem cF_of {ws : List Nat} {w : World} {bk off c : Nat} (hv : ReadsT uE 1 w (.slice (some ⟨bk, off, none⟩) 64 c) ws) (hn : ws.length = 64) : ∀ i, i < 64 → ∀ W, Below w.heap.size w W → W.cell? ⟨bk, off + i, none⟩ = some (.int .u64 (gw ws i : Int)) := fun i hi W b => by
  obtain ⟨_, _, e, _, cs⟩ := (hv.up b).one uEnc (gw_get (ws := ws) (i := i) (by omega))
  cases e
  exact cs _ rfl
theorem bk_of {ws : List Nat} {w : World} {bk off c : Nat} (hv : ReadsT uE 1 w (.slice (some ⟨bk, off, none⟩) 64 c) ws) (hn : ws.length = 64) : bk < w.heap.size := by
  obtain ⟨_, _, e, h, _⟩ := hv.one uEnc (gw_get (ws := ws) (i := 0) (by omega))
  cases e
  exact h
theorem sub_mark {x : Nat} (h : 7522529147838689024 ≤ x ∧ x ≤ 7522529147838689036) : IntKind.u64.wrap ((x : Int) - ((7522529147838689024 : Nat) : Int)) = ((x % 256 : Nat) : Int) := by
  rw [IntKind.wrap_u64]
  omega
theorem rOf_no (n : Nat) (v : Value) (ws : List Nat) (w : World) (hv : ReadsT uE 1 w v ws) (hn : ws.length = n) (hb : ∀ x ∈ ws, x < 18446744073709551616) (hP : ¬nodeP ws) : Calls Try.prog 10 #[v] w fun e w' => e = .returned (.tuple #[nodeV 0 0 0 0 0 nilV, .int .i64 210]) ∧ Below w.heap.size w w' := by
  have q := Below.refl w.heap.size w
  by_cases h64 : n = 64
  case neg =>
    obtain ⟨a, c, rfl, hc⟩ := hv.form hn
    clear hv hb
    refine X.fn Try.func10 rfl (n := 101) rfl rfl ?_
    refine CC.seq ?_
    refine CC.region ?_
    refine LL.alloc ([Value.int IntKind.i64 0, Value.int IntKind.i64 0, Value.int IntKind.u64 0, Value.int IntKind.u64 0, Value.int IntKind.i64 0, Value.slice none 0 0]) rfl rfl rfl rfl rfl ?_
    intro W2 g3 eg3 r4 z5 b1
    replace q := q.trans (b1.mono q.size)
    refine LL.val (R.assign rfl rfl) rfl rfl rfl ?_
    refine LL.nilS ?_
    refine CC.seq ?_
    refine CC.seq ?_
    refine CC.region ?_
    refine LL.val (R.move rfl rfl) rfl rfl rfl ?_
    refine LL.val (R.len rfl rfl rfl rfl) rfl rfl rfl ?_
    refine LL.val (R.neT rfl rfl rfl (by omega)) rfl rfl rfl ?_
    refine LL.val (R.move rfl rfl) rfl rfl rfl ?_
    refine LL.skip rfl rfl ?_
    refine LL.skip rfl rfl ?_
    refine LL.skip rfl rfl ?_
    refine LL.skip rfl rfl ?_
    refine LL.val (R.pick rfl rfl rfl) rfl rfl rfl ?_
    refine LL.val (R.move rfl rfl) rfl rfl rfl ?_
    refine LL.skip rfl rfl ?_
    refine LL.skip rfl rfl ?_
    refine LL.skip rfl rfl ?_
    refine LL.skip rfl rfl ?_
    refine LL.val (R.pick rfl rfl rfl) rfl rfl rfl ?_
    refine LL.val (R.move rfl rfl) rfl rfl rfl ?_
    refine LL.skip rfl rfl ?_
    refine LL.skip rfl rfl ?_
    refine LL.skip rfl rfl ?_
    refine LL.skip rfl rfl ?_
    refine LL.val (R.pick rfl rfl rfl) rfl rfl rfl ?_
    refine LL.val (R.move rfl rfl) rfl rfl rfl ?_
    refine LL.skip rfl rfl ?_
    refine LL.skip rfl rfl ?_
    refine LL.skip rfl rfl ?_
    refine LL.skip rfl rfl ?_
    refine LL.val (R.pick rfl rfl rfl) rfl rfl rfl ?_
    refine LL.val (R.move rfl rfl) rfl rfl rfl ?_
    refine LL.skip rfl rfl ?_
    refine LL.skip rfl rfl ?_
    refine LL.skip rfl rfl ?_
    refine LL.skip rfl rfl ?_
    refine LL.val (R.pick rfl rfl rfl) rfl rfl rfl ?_
    refine LL.val (R.move rfl rfl) rfl rfl rfl ?_
    refine LL.skip rfl rfl ?_
    refine LL.skip rfl rfl ?_
    refine LL.skip rfl rfl ?_
    refine LL.skip rfl rfl ?_
    refine LL.val (R.pick rfl rfl rfl) rfl rfl rfl ?_
    refine LL.val (R.move rfl rfl) rfl rfl rfl ?_
    refine LL.skip rfl rfl ?_
    refine LL.skip rfl rfl ?_
    refine LL.skip rfl rfl ?_
    refine LL.skip rfl rfl ?_
    refine LL.val (R.pick rfl rfl rfl) rfl rfl rfl ?_
    refine LL.nilS ?_
    refine CC.yes rfl ?_
    refine CC.seq ?_
    refine CC.region ?_
    refine LL.val (R.buildV rfl rfl (v := .agg #[Value.int IntKind.i64 0, Value.int IntKind.i64 0, Value.int IntKind.u64 0, Value.int IntKind.u64 0, Value.int IntKind.i64 0, Value.slice none 0 0]) (fun _ => by kernel_rfl)) rfl rfl rfl ?_
    refine LL.storeN (vs := [Value.int IntKind.i64 0, Value.int IntKind.i64 0, Value.int IntKind.u64 0, Value.int IntKind.u64 0, Value.int IntKind.i64 0, Value.slice none 0 0]) rfl rfl rfl rfl r4 (by exact Nat.le_of_ble_eq_true rfl) (ones_of rfl) rfl rfl ?_
    intro W7 r8 b6 z9
    have hlb6 := r4.lt
    replace r8 : RowL W7 _ 29 [Value.int IntKind.i64 0, Value.int IntKind.i64 0, Value.int IntKind.u64 0, Value.int IntKind.u64 0, Value.int IntKind.i64 0, Value.slice none 0 0] := r8
    clear r4
    replace b1 := b1.grown b6 b1.size (by rintro k ⟨⟩; omega)
    replace q := q.grown b6 q.size (by rintro k ⟨⟩; omega)
    have r4 := r8
    clear r8
    refine LL.val (R.assign rfl rfl) rfl rfl rfl ?_
    refine LL.nilS ?_
    refine CC.ret ?_
    refine EE.thenR ?_
    refine EE.ret2 rfl ⟨_, rfl, lvNc (RowL.cells0 (by assumption)) (by rfl) (by rfl)⟩ rfl ?_
    exact ⟨rfl, q⟩
  subst h64
  obtain ⟨bk, off, c, rfl, hc⟩ := sl64 hv hn
  have cF := cF_of hv hn
  have hbk := bk_of hv hn
  have hlt := gw_lt hb
  obtain ⟨x0, e0⟩ : ∃ x, gw ws 0 = x := ⟨_, rfl⟩
  obtain ⟨x3, e3⟩ : ∃ x, gw ws 3 = x := ⟨_, rfl⟩
  have l0 := hlt 0
  have l3 := hlt 3
  have cF0 := cF 0 (by decide)
  have cF3 := cF 3 (by decide)
  rw [e0] at l0 cF0
  rw [e3] at l3 cF3
  have hP' : ¬(hdOk x0 (gw ws 1) x3 (gw ws 4) (gw ws 5) (gw ws 6) (gw ws 7)) := fun h => hP ⟨hn, by rw [e0, e3]; exact h⟩
  clear hv hb hP e0 e3
  have hmk := fun h => sub_mark (x := x0) h
  refine X.fn Try.func10 rfl (n := 101) rfl rfl ?_
  refine CC.seq ?_
  refine CC.region ?_
  refine LL.alloc ([Value.int IntKind.i64 0, Value.int IntKind.i64 0, Value.int IntKind.u64 0, Value.int IntKind.u64 0, Value.int IntKind.i64 0, Value.slice none 0 0]) rfl rfl rfl rfl rfl ?_
  intro Wa2 ga3 ega3 ra4 za5 ba1
  replace q := q.trans (ba1.mono q.size)
  refine LL.val (R.assign rfl rfl) rfl rfl rfl ?_
  refine LL.nilS ?_
  refine CC.seq ?_
  refine CC.seq ?_
  refine CC.region ?_
  refine LL.val (R.move rfl rfl) rfl rfl rfl ?_
  refine LL.val (R.len rfl rfl rfl rfl) rfl rfl rfl ?_
  refine LL.val (R.neF rfl rfl rfl (by omega)) rfl rfl rfl ?_
  refine LL.val (R.move rfl rfl) rfl rfl rfl ?_
  refine LL.val (R.move rfl rfl) rfl rfl rfl ?_
  refine LL.val (R.index rfl rfl rfl (I.ixS1c rfl rfl (by omega))) rfl rfl rfl ?_
  (refine LL.val (R.load rfl rfl (I.ld1 rfl (cF0 _ q))) rfl rfl rfl ?_)
  refine LL.vsplit (fun h => R.ltT rfl rfl rfl h) (fun h => R.ltF rfl rfl rfl (Int.not_lt.1 h)) rfl rfl rfl (fun ca6 => ?_) (fun ca6 => ?_)
  refine LL.val (R.pick rfl rfl rfl) rfl rfl rfl ?_
  refine LL.val (R.move rfl rfl) rfl rfl rfl ?_
  refine LL.skip rfl rfl ?_
  refine LL.skip rfl rfl ?_
  refine LL.skip rfl rfl ?_
  refine LL.skip rfl rfl ?_
  refine LL.val (R.pick rfl rfl rfl) rfl rfl rfl ?_
  refine LL.val (R.move rfl rfl) rfl rfl rfl ?_
  refine LL.skip rfl rfl ?_
  refine LL.skip rfl rfl ?_
  refine LL.skip rfl rfl ?_
  refine LL.skip rfl rfl ?_
  refine LL.val (R.pick rfl rfl rfl) rfl rfl rfl ?_
  refine LL.val (R.move rfl rfl) rfl rfl rfl ?_
  refine LL.skip rfl rfl ?_
  refine LL.skip rfl rfl ?_
  refine LL.skip rfl rfl ?_
  refine LL.skip rfl rfl ?_
  refine LL.val (R.pick rfl rfl rfl) rfl rfl rfl ?_
  refine LL.val (R.move rfl rfl) rfl rfl rfl ?_
  refine LL.skip rfl rfl ?_
  refine LL.skip rfl rfl ?_
  refine LL.skip rfl rfl ?_
  refine LL.skip rfl rfl ?_
  refine LL.val (R.pick rfl rfl rfl) rfl rfl rfl ?_
  refine LL.val (R.move rfl rfl) rfl rfl rfl ?_
  refine LL.skip rfl rfl ?_
  refine LL.skip rfl rfl ?_
  refine LL.skip rfl rfl ?_
  refine LL.skip rfl rfl ?_
  refine LL.val (R.pick rfl rfl rfl) rfl rfl rfl ?_
  refine LL.val (R.move rfl rfl) rfl rfl rfl ?_
  refine LL.skip rfl rfl ?_
  refine LL.skip rfl rfl ?_
  refine LL.skip rfl rfl ?_
  refine LL.skip rfl rfl ?_
  refine LL.val (R.pick rfl rfl rfl) rfl rfl rfl ?_
  refine LL.nilS ?_
  refine CC.yes rfl ?_
  refine CC.seq ?_
  refine CC.region ?_
  refine LL.val (R.buildV rfl rfl (v := .agg #[Value.int IntKind.i64 0, Value.int IntKind.i64 0, Value.int IntKind.u64 0, Value.int IntKind.u64 0, Value.int IntKind.i64 0, Value.slice none 0 0]) (fun _ => by kernel_rfl)) rfl rfl rfl ?_
  refine LL.storeN (vs := [Value.int IntKind.i64 0, Value.int IntKind.i64 0, Value.int IntKind.u64 0, Value.int IntKind.u64 0, Value.int IntKind.i64 0, Value.slice none 0 0]) rfl rfl rfl rfl ra4 (by exact Nat.le_of_ble_eq_true rfl) (ones_of rfl) rfl rfl ?_
  intro Wa8 ra9 ba7 za10
  have hlba7 := ra4.lt
  replace ra9 : RowL Wa8 _ 29 [Value.int IntKind.i64 0, Value.int IntKind.i64 0, Value.int IntKind.u64 0, Value.int IntKind.u64 0, Value.int IntKind.i64 0, Value.slice none 0 0] := ra9
  clear ra4
  replace ba1 := ba1.grown ba7 ba1.size (by rintro k ⟨⟩; omega)
  replace q := q.grown ba7 q.size (by rintro k ⟨⟩; omega)
  have ra4 := ra9
  clear ra9
  refine LL.val (R.assign rfl rfl) rfl rfl rfl ?_
  refine LL.nilS ?_
  refine CC.ret ?_
  refine EE.thenR ?_
  refine EE.ret2 rfl ⟨_, rfl, lvNc (RowL.cells0 (by assumption)) (by rfl) (by rfl)⟩ rfl ?_
  exact ⟨rfl, q⟩
  refine LL.val (R.pick rfl rfl rfl) rfl rfl rfl ?_
  refine LL.val (R.move rfl rfl) rfl rfl rfl ?_
  refine LL.val (R.move rfl rfl) rfl rfl rfl ?_
  refine LL.val (R.index rfl rfl rfl (I.ixS1c rfl rfl (by omega))) rfl rfl rfl ?_
  (refine LL.val (R.load rfl rfl (I.ld1 rfl (cF0 _ q))) rfl rfl rfl ?_)
  refine LL.vsplit (fun h => R.gtT rfl rfl rfl h) (fun h => R.gtF rfl rfl rfl (Int.not_lt.1 h)) rfl rfl rfl (fun ca11 => ?_) (fun ca11 => ?_)
  refine LL.val (R.pick rfl rfl rfl) rfl rfl rfl ?_
  refine LL.val (R.move rfl rfl) rfl rfl rfl ?_
  refine LL.skip rfl rfl ?_
  refine LL.skip rfl rfl ?_
  refine LL.skip rfl rfl ?_
  refine LL.skip rfl rfl ?_
  refine LL.val (R.pick rfl rfl rfl) rfl rfl rfl ?_
  refine LL.val (R.move rfl rfl) rfl rfl rfl ?_
  refine LL.skip rfl rfl ?_
  refine LL.skip rfl rfl ?_
  refine LL.skip rfl rfl ?_
  refine LL.skip rfl rfl ?_
  refine LL.val (R.pick rfl rfl rfl) rfl rfl rfl ?_
  refine LL.val (R.move rfl rfl) rfl rfl rfl ?_
  refine LL.skip rfl rfl ?_
  refine LL.skip rfl rfl ?_
  refine LL.skip rfl rfl ?_
  refine LL.skip rfl rfl ?_
  refine LL.val (R.pick rfl rfl rfl) rfl rfl rfl ?_
  refine LL.val (R.move rfl rfl) rfl rfl rfl ?_
  refine LL.skip rfl rfl ?_
  refine LL.skip rfl rfl ?_
  refine LL.skip rfl rfl ?_
  refine LL.skip rfl rfl ?_
  refine LL.val (R.pick rfl rfl rfl) rfl rfl rfl ?_
  refine LL.val (R.move rfl rfl) rfl rfl rfl ?_
  refine LL.skip rfl rfl ?_
  refine LL.skip rfl rfl ?_
  refine LL.skip rfl rfl ?_
  refine LL.skip rfl rfl ?_
  refine LL.val (R.pick rfl rfl rfl) rfl rfl rfl ?_
  refine LL.nilS ?_
  refine CC.yes rfl ?_
  refine CC.seq ?_
  refine CC.region ?_
  refine LL.val (R.buildV rfl rfl (v := .agg #[Value.int IntKind.i64 0, Value.int IntKind.i64 0, Value.int IntKind.u64 0, Value.int IntKind.u64 0, Value.int IntKind.i64 0, Value.slice none 0 0]) (fun _ => by kernel_rfl)) rfl rfl rfl ?_
  refine LL.storeN (vs := [Value.int IntKind.i64 0, Value.int IntKind.i64 0, Value.int IntKind.u64 0, Value.int IntKind.u64 0, Value.int IntKind.i64 0, Value.slice none 0 0]) rfl rfl rfl rfl ra4 (by exact Nat.le_of_ble_eq_true rfl) (ones_of rfl) rfl rfl ?_
  intro Wa13 ra14 ba12 za15
  have hlba12 := ra4.lt
  replace ra14 : RowL Wa13 _ 29 [Value.int IntKind.i64 0, Value.int IntKind.i64 0, Value.int IntKind.u64 0, Value.int IntKind.u64 0, Value.int IntKind.i64 0, Value.slice none 0 0] := ra14
  clear ra4
  replace ba1 := ba1.grown ba12 ba1.size (by rintro k ⟨⟩; omega)
  replace q := q.grown ba12 q.size (by rintro k ⟨⟩; omega)
  have ra4 := ra14
  clear ra14
  refine LL.val (R.assign rfl rfl) rfl rfl rfl ?_
  refine LL.nilS ?_
  refine CC.ret ?_
  refine EE.thenR ?_
  refine EE.ret2 rfl ⟨_, rfl, lvNc (RowL.cells0 (by assumption)) (by rfl) (by rfl)⟩ rfl ?_
  exact ⟨rfl, q⟩
  refine LL.val (R.pick rfl rfl rfl) rfl rfl rfl ?_
  refine LL.val (R.move rfl rfl) rfl rfl rfl ?_
  refine LL.val (R.move rfl rfl) rfl rfl rfl ?_
  refine LL.val (R.index rfl rfl rfl (I.ixS1c rfl rfl (by omega))) rfl rfl rfl ?_
  (refine LL.val (R.load rfl rfl (I.ld1 rfl (cF 1 (by decide) _ q))) rfl rfl rfl ?_)
  refine LL.vsplit (fun h => R.gtT rfl rfl rfl h) (fun h => R.gtF rfl rfl rfl (Int.not_lt.1 h)) rfl rfl rfl (fun ca16 => ?_) (fun ca16 => ?_)
  refine LL.val (R.pick rfl rfl rfl) rfl rfl rfl ?_
  refine LL.val (R.move rfl rfl) rfl rfl rfl ?_
  refine LL.skip rfl rfl ?_
  refine LL.skip rfl rfl ?_
  refine LL.skip rfl rfl ?_
  refine LL.skip rfl rfl ?_
  refine LL.val (R.pick rfl rfl rfl) rfl rfl rfl ?_
  refine LL.val (R.move rfl rfl) rfl rfl rfl ?_
  refine LL.skip rfl rfl ?_
  refine LL.skip rfl rfl ?_
  refine LL.skip rfl rfl ?_
  refine LL.skip rfl rfl ?_
  refine LL.val (R.pick rfl rfl rfl) rfl rfl rfl ?_
  refine LL.val (R.move rfl rfl) rfl rfl rfl ?_
  refine LL.skip rfl rfl ?_
  refine LL.skip rfl rfl ?_
  refine LL.skip rfl rfl ?_
  refine LL.skip rfl rfl ?_
  refine LL.val (R.pick rfl rfl rfl) rfl rfl rfl ?_
  refine LL.val (R.move rfl rfl) rfl rfl rfl ?_
  refine LL.skip rfl rfl ?_
  refine LL.skip rfl rfl ?_
  refine LL.skip rfl rfl ?_
  refine LL.skip rfl rfl ?_
  refine LL.val (R.pick rfl rfl rfl) rfl rfl rfl ?_
  refine LL.nilS ?_
  refine CC.yes rfl ?_
  refine CC.seq ?_
  refine CC.region ?_
  refine LL.val (R.buildV rfl rfl (v := .agg #[Value.int IntKind.i64 0, Value.int IntKind.i64 0, Value.int IntKind.u64 0, Value.int IntKind.u64 0, Value.int IntKind.i64 0, Value.slice none 0 0]) (fun _ => by kernel_rfl)) rfl rfl rfl ?_
  refine LL.storeN (vs := [Value.int IntKind.i64 0, Value.int IntKind.i64 0, Value.int IntKind.u64 0, Value.int IntKind.u64 0, Value.int IntKind.i64 0, Value.slice none 0 0]) rfl rfl rfl rfl ra4 (by exact Nat.le_of_ble_eq_true rfl) (ones_of rfl) rfl rfl ?_
  intro Wa18 ra19 ba17 za20
  have hlba17 := ra4.lt
  replace ra19 : RowL Wa18 _ 29 [Value.int IntKind.i64 0, Value.int IntKind.i64 0, Value.int IntKind.u64 0, Value.int IntKind.u64 0, Value.int IntKind.i64 0, Value.slice none 0 0] := ra19
  clear ra4
  replace ba1 := ba1.grown ba17 ba1.size (by rintro k ⟨⟩; omega)
  replace q := q.grown ba17 q.size (by rintro k ⟨⟩; omega)
  have ra4 := ra19
  clear ra19
  refine LL.val (R.assign rfl rfl) rfl rfl rfl ?_
  refine LL.nilS ?_
  refine CC.ret ?_
  refine EE.thenR ?_
  refine EE.ret2 rfl ⟨_, rfl, lvNc (RowL.cells0 (by assumption)) (by rfl) (by rfl)⟩ rfl ?_
  exact ⟨rfl, q⟩
  refine LL.val (R.pick rfl rfl rfl) rfl rfl rfl ?_
  refine LL.val (R.move rfl rfl) rfl rfl rfl ?_
  refine LL.val (R.move rfl rfl) rfl rfl rfl ?_
  refine LL.val (R.index rfl rfl rfl (I.ixS1c rfl rfl (by omega))) rfl rfl rfl ?_
  (refine LL.val (R.load rfl rfl (I.ld1 rfl (cF 4 (by decide) _ q))) rfl rfl rfl ?_)
  refine LL.vsplit (fun h => R.gtT rfl rfl rfl h) (fun h => R.gtF rfl rfl rfl (Int.not_lt.1 h)) rfl rfl rfl (fun ca21 => ?_) (fun ca21 => ?_)
  refine LL.val (R.pick rfl rfl rfl) rfl rfl rfl ?_
  refine LL.val (R.move rfl rfl) rfl rfl rfl ?_
  refine LL.skip rfl rfl ?_
  refine LL.skip rfl rfl ?_
  refine LL.skip rfl rfl ?_
  refine LL.skip rfl rfl ?_
  refine LL.val (R.pick rfl rfl rfl) rfl rfl rfl ?_
  refine LL.val (R.move rfl rfl) rfl rfl rfl ?_
  refine LL.skip rfl rfl ?_
  refine LL.skip rfl rfl ?_
  refine LL.skip rfl rfl ?_
  refine LL.skip rfl rfl ?_
  refine LL.val (R.pick rfl rfl rfl) rfl rfl rfl ?_
  refine LL.val (R.move rfl rfl) rfl rfl rfl ?_
  refine LL.skip rfl rfl ?_
  refine LL.skip rfl rfl ?_
  refine LL.skip rfl rfl ?_
  refine LL.skip rfl rfl ?_
  refine LL.val (R.pick rfl rfl rfl) rfl rfl rfl ?_
  refine LL.nilS ?_
  refine CC.yes rfl ?_
  refine CC.seq ?_
  refine CC.region ?_
  refine LL.val (R.buildV rfl rfl (v := .agg #[Value.int IntKind.i64 0, Value.int IntKind.i64 0, Value.int IntKind.u64 0, Value.int IntKind.u64 0, Value.int IntKind.i64 0, Value.slice none 0 0]) (fun _ => by kernel_rfl)) rfl rfl rfl ?_
  refine LL.storeN (vs := [Value.int IntKind.i64 0, Value.int IntKind.i64 0, Value.int IntKind.u64 0, Value.int IntKind.u64 0, Value.int IntKind.i64 0, Value.slice none 0 0]) rfl rfl rfl rfl ra4 (by exact Nat.le_of_ble_eq_true rfl) (ones_of rfl) rfl rfl ?_
  intro Wa23 ra24 ba22 za25
  have hlba22 := ra4.lt
  replace ra24 : RowL Wa23 _ 29 [Value.int IntKind.i64 0, Value.int IntKind.i64 0, Value.int IntKind.u64 0, Value.int IntKind.u64 0, Value.int IntKind.i64 0, Value.slice none 0 0] := ra24
  clear ra4
  replace ba1 := ba1.grown ba22 ba1.size (by rintro k ⟨⟩; omega)
  replace q := q.grown ba22 q.size (by rintro k ⟨⟩; omega)
  have ra4 := ra24
  clear ra24
  refine LL.val (R.assign rfl rfl) rfl rfl rfl ?_
  refine LL.nilS ?_
  refine CC.ret ?_
  refine EE.thenR ?_
  refine EE.ret2 rfl ⟨_, rfl, lvNc (RowL.cells0 (by assumption)) (by rfl) (by rfl)⟩ rfl ?_
  exact ⟨rfl, q⟩
  refine LL.val (R.pick rfl rfl rfl) rfl rfl rfl ?_
  refine LL.val (R.move rfl rfl) rfl rfl rfl ?_
  refine LL.val (R.move rfl rfl) rfl rfl rfl ?_
  refine LL.val (R.index rfl rfl rfl (I.ixS1c rfl rfl (by omega))) rfl rfl rfl ?_
  (refine LL.val (R.load rfl rfl (I.ld1 rfl (cF 5 (by decide) _ q))) rfl rfl rfl ?_)
  refine LL.vsplit (fun h => R.neT rfl rfl rfl h) (fun h => R.neF rfl rfl rfl (Decidable.not_not.1 h)) rfl rfl rfl (fun ca26 => ?_) (fun ca26 => ?_)
  refine LL.val (R.pick rfl rfl rfl) rfl rfl rfl ?_
  refine LL.val (R.move rfl rfl) rfl rfl rfl ?_
  refine LL.skip rfl rfl ?_
  refine LL.skip rfl rfl ?_
  refine LL.skip rfl rfl ?_
  refine LL.skip rfl rfl ?_
  refine LL.val (R.pick rfl rfl rfl) rfl rfl rfl ?_
  refine LL.val (R.move rfl rfl) rfl rfl rfl ?_
  refine LL.skip rfl rfl ?_
  refine LL.skip rfl rfl ?_
  refine LL.skip rfl rfl ?_
  refine LL.skip rfl rfl ?_
  refine LL.val (R.pick rfl rfl rfl) rfl rfl rfl ?_
  refine LL.nilS ?_
  refine CC.yes rfl ?_
  refine CC.seq ?_
  refine CC.region ?_
  refine LL.val (R.buildV rfl rfl (v := .agg #[Value.int IntKind.i64 0, Value.int IntKind.i64 0, Value.int IntKind.u64 0, Value.int IntKind.u64 0, Value.int IntKind.i64 0, Value.slice none 0 0]) (fun _ => by kernel_rfl)) rfl rfl rfl ?_
  refine LL.storeN (vs := [Value.int IntKind.i64 0, Value.int IntKind.i64 0, Value.int IntKind.u64 0, Value.int IntKind.u64 0, Value.int IntKind.i64 0, Value.slice none 0 0]) rfl rfl rfl rfl ra4 (by exact Nat.le_of_ble_eq_true rfl) (ones_of rfl) rfl rfl ?_
  intro Wa28 ra29 ba27 za30
  have hlba27 := ra4.lt
  replace ra29 : RowL Wa28 _ 29 [Value.int IntKind.i64 0, Value.int IntKind.i64 0, Value.int IntKind.u64 0, Value.int IntKind.u64 0, Value.int IntKind.i64 0, Value.slice none 0 0] := ra29
  clear ra4
  replace ba1 := ba1.grown ba27 ba1.size (by rintro k ⟨⟩; omega)
  replace q := q.grown ba27 q.size (by rintro k ⟨⟩; omega)
  have ra4 := ra29
  clear ra29
  refine LL.val (R.assign rfl rfl) rfl rfl rfl ?_
  refine LL.nilS ?_
  refine CC.ret ?_
  refine EE.thenR ?_
  refine EE.ret2 rfl ⟨_, rfl, lvNc (RowL.cells0 (by assumption)) (by rfl) (by rfl)⟩ rfl ?_
  exact ⟨rfl, q⟩
  refine LL.val (R.pick rfl rfl rfl) rfl rfl rfl ?_
  refine LL.val (R.move rfl rfl) rfl rfl rfl ?_
  refine LL.val (R.move rfl rfl) rfl rfl rfl ?_
  refine LL.val (R.index rfl rfl rfl (I.ixS1c rfl rfl (by omega))) rfl rfl rfl ?_
  (refine LL.val (R.load rfl rfl (I.ld1 rfl (cF 6 (by decide) _ q))) rfl rfl rfl ?_)
  refine LL.vsplit (fun h => R.neT rfl rfl rfl h) (fun h => R.neF rfl rfl rfl (Decidable.not_not.1 h)) rfl rfl rfl (fun ca31 => ?_) (fun ca31 => ?_)
  refine LL.val (R.pick rfl rfl rfl) rfl rfl rfl ?_
  refine LL.val (R.move rfl rfl) rfl rfl rfl ?_
  refine LL.skip rfl rfl ?_
  refine LL.skip rfl rfl ?_
  refine LL.skip rfl rfl ?_
  refine LL.skip rfl rfl ?_
  refine LL.val (R.pick rfl rfl rfl) rfl rfl rfl ?_
  refine LL.nilS ?_
  refine CC.yes rfl ?_
  refine CC.seq ?_
  refine CC.region ?_
  refine LL.val (R.buildV rfl rfl (v := .agg #[Value.int IntKind.i64 0, Value.int IntKind.i64 0, Value.int IntKind.u64 0, Value.int IntKind.u64 0, Value.int IntKind.i64 0, Value.slice none 0 0]) (fun _ => by kernel_rfl)) rfl rfl rfl ?_
  refine LL.storeN (vs := [Value.int IntKind.i64 0, Value.int IntKind.i64 0, Value.int IntKind.u64 0, Value.int IntKind.u64 0, Value.int IntKind.i64 0, Value.slice none 0 0]) rfl rfl rfl rfl ra4 (by exact Nat.le_of_ble_eq_true rfl) (ones_of rfl) rfl rfl ?_
  intro Wa33 ra34 ba32 za35
  have hlba32 := ra4.lt
  replace ra34 : RowL Wa33 _ 29 [Value.int IntKind.i64 0, Value.int IntKind.i64 0, Value.int IntKind.u64 0, Value.int IntKind.u64 0, Value.int IntKind.i64 0, Value.slice none 0 0] := ra34
  clear ra4
  replace ba1 := ba1.grown ba32 ba1.size (by rintro k ⟨⟩; omega)
  replace q := q.grown ba32 q.size (by rintro k ⟨⟩; omega)
  have ra4 := ra34
  clear ra34
  refine LL.val (R.assign rfl rfl) rfl rfl rfl ?_
  refine LL.nilS ?_
  refine CC.ret ?_
  refine EE.thenR ?_
  refine EE.ret2 rfl ⟨_, rfl, lvNc (RowL.cells0 (by assumption)) (by rfl) (by rfl)⟩ rfl ?_
  exact ⟨rfl, q⟩
  refine LL.val (R.pick rfl rfl rfl) rfl rfl rfl ?_
  refine LL.val (R.move rfl rfl) rfl rfl rfl ?_
  refine LL.val (R.move rfl rfl) rfl rfl rfl ?_
  refine LL.val (R.index rfl rfl rfl (I.ixS1c rfl rfl (by omega))) rfl rfl rfl ?_
  (refine LL.val (R.load rfl rfl (I.ld1 rfl (cF 7 (by decide) _ q))) rfl rfl rfl ?_)
  refine LL.vsplit (fun h => R.neT rfl rfl rfl h) (fun h => R.neF rfl rfl rfl (Decidable.not_not.1 h)) rfl rfl rfl (fun ca36 => ?_) (fun ca36 => ?_)
  refine LL.val (R.pick rfl rfl rfl) rfl rfl rfl ?_
  refine LL.nilS ?_
  refine CC.yes rfl ?_
  refine CC.seq ?_
  refine CC.region ?_
  refine LL.val (R.buildV rfl rfl (v := .agg #[Value.int IntKind.i64 0, Value.int IntKind.i64 0, Value.int IntKind.u64 0, Value.int IntKind.u64 0, Value.int IntKind.i64 0, Value.slice none 0 0]) (fun _ => by kernel_rfl)) rfl rfl rfl ?_
  refine LL.storeN (vs := [Value.int IntKind.i64 0, Value.int IntKind.i64 0, Value.int IntKind.u64 0, Value.int IntKind.u64 0, Value.int IntKind.i64 0, Value.slice none 0 0]) rfl rfl rfl rfl ra4 (by exact Nat.le_of_ble_eq_true rfl) (ones_of rfl) rfl rfl ?_
  intro Wa38 ra39 ba37 za40
  have hlba37 := ra4.lt
  replace ra39 : RowL Wa38 _ 29 [Value.int IntKind.i64 0, Value.int IntKind.i64 0, Value.int IntKind.u64 0, Value.int IntKind.u64 0, Value.int IntKind.i64 0, Value.slice none 0 0] := ra39
  clear ra4
  replace ba1 := ba1.grown ba37 ba1.size (by rintro k ⟨⟩; omega)
  replace q := q.grown ba37 q.size (by rintro k ⟨⟩; omega)
  have ra4 := ra39
  clear ra39
  refine LL.val (R.assign rfl rfl) rfl rfl rfl ?_
  refine LL.nilS ?_
  refine CC.ret ?_
  refine EE.thenR ?_
  refine EE.ret2 rfl ⟨_, rfl, lvNc (RowL.cells0 (by assumption)) (by rfl) (by rfl)⟩ rfl ?_
  exact ⟨rfl, q⟩
  refine LL.val (R.pick rfl rfl rfl) rfl rfl rfl ?_
  refine LL.nilS ?_
  refine CC.no rfl ?_
  refine CC.skip ?_
  refine EE.thenN ?_
  refine CC.seq ?_
  refine CC.freeZ (fun W_ j => j < W_.heap.size ∧ (True)) (by kernel_rfl) (by kernel_rfl) (fun Wa42 ba41 za43 => ?_)
  replace ra4 := ra4.up ba41
  replace ba1 := ba1.trans (ba41.mono ba1.size)
  replace q := q.trans (ba41.mono q.size)
  have hok : Kept (fun j => j < Wa42.heap.size ∧ (True)) Wa42 Wa42 := Kept.refl _ _
  have fzra4 := fzRow (K := fun j => j < Wa42.heap.size ∧ (True)) ra4 ⟨ra4.lt, (by first | trivial | omega)⟩
  refine AA.pure 0 rfl hok (by kernel_rfl) (fun w' b' => R.move rfl rfl) rfl rfl ?_
  refine AA.pure 1 rfl hok (by kernel_rfl) (fun w' b' => R.index rfl rfl rfl (I.ixS1c rfl rfl (by omega))) rfl rfl ?_
  refine AA.pure 2 rfl hok (by kernel_rfl) (fun w' b' => R.load rfl rfl (I.ld1 rfl (cell_kept (cF0 _ q) b' ⟨by have := q.size; omega, trivial⟩))) rfl rfl ?_
  refine AA.pure 3 rfl hok (by kernel_rfl) (fun w' b' => R.subU (b := 7522529147838689024) rfl rfl rfl (hmk ⟨by omega, by omega⟩)) rfl rfl ?_
  refine AA.pure 4 rfl hok (by kernel_rfl) (fun w' b' => R.convI rfl rfl rfl rfl (wrapI (by omega) (by omega))) rfl rfl ?_
  refine AA.pure 5 rfl hok (by kernel_rfl) (fun w' b' => R.move rfl rfl) rfl rfl ?_
  refine AA.pure 6 rfl hok (by kernel_rfl) (fun w' b' => R.index rfl rfl rfl (I.ixS1c rfl rfl (by omega))) rfl rfl ?_
  refine AA.pure 7 rfl hok (by kernel_rfl) (fun w' b' => R.load rfl rfl (I.ld1 rfl (cell_kept (cF 1 (by decide) _ q) b' ⟨by have := q.size; omega, trivial⟩))) rfl rfl ?_
  refine AA.pure 8 rfl hok (by kernel_rfl) (fun w' b' => R.convI rfl rfl rfl rfl (wrapI (by omega) (by omega))) rfl rfl ?_
  refine AA.pure 9 rfl hok (by kernel_rfl) (fun w' b' => R.move rfl rfl) rfl rfl ?_
  refine AA.pure 10 rfl hok (by kernel_rfl) (fun w' b' => R.index rfl rfl rfl (I.ixS1c rfl rfl (by omega))) rfl rfl ?_
  refine AA.pure 11 rfl hok (by kernel_rfl) (fun w' b' => R.load rfl rfl (I.ld1 rfl (cell_kept (cF 2 (by decide) _ q) b' ⟨by have := q.size; omega, trivial⟩))) rfl rfl ?_
  refine AA.pure 12 rfl hok (by kernel_rfl) (fun w' b' => R.move rfl rfl) rfl rfl ?_
  refine AA.pure 13 rfl hok (by kernel_rfl) (fun w' b' => R.index rfl rfl rfl (I.ixS1c rfl rfl (by omega))) rfl rfl ?_
  refine AA.pure 14 rfl hok (by kernel_rfl) (fun w' b' => R.load rfl rfl (I.ld1 rfl (cell_kept (cF3 _ q) b' ⟨by have := q.size; omega, trivial⟩))) rfl rfl ?_
  refine AA.pure 15 rfl hok (by kernel_rfl) (fun w' b' => R.move rfl rfl) rfl rfl ?_
  refine AA.pure 16 rfl hok (by kernel_rfl) (fun w' b' => R.index rfl rfl rfl (I.ixS1c rfl rfl (by omega))) rfl rfl ?_
  refine AA.pure 17 rfl hok (by kernel_rfl) (fun w' b' => R.load rfl rfl (I.ld1 rfl (cell_kept (cF 4 (by decide) _ q) b' ⟨by have := q.size; omega, trivial⟩))) rfl rfl ?_
  refine AA.pure 18 rfl hok (by kernel_rfl) (fun w' b' => R.convI rfl rfl rfl rfl (wrapI (by omega) (by omega))) rfl rfl ?_
  refine AA.pure 19 rfl hok (by kernel_rfl) (fun w' b' => R.buildV rfl rfl (v := .agg #[Value.int IntKind.i64 ↑(x0 % 256), Value.int IntKind.i64 ↑(gw ws 1), Value.int IntKind.u64 ↑(gw ws 2), Value.int IntKind.u64 ↑x3, Value.int IntKind.i64 ↑(gw ws 4), Value.slice none 0 0]) (fun _ => by kernel_rfl)) rfl rfl ?_
  refine AA.one 20 (by kernel_rfl) ?_
  have la44 := ra4.lt
  refine ZR.alloc ([Value.int IntKind.i64 0, Value.int IntKind.i64 0, Value.int IntKind.u64 0, Value.int IntKind.u64 0, Value.int IntKind.i64 0, Value.slice none 0 0]) rfl rfl rfl rfl rfl rfl ?_
  intro Wa46 ga47 ega47 ra48 za49 ba45
  replace ba41 := ba41.trans (ba45.mono ba41.size)
  replace ra4 := ra4.up ba45
  replace ba1 := ba1.trans (ba45.mono ba1.size)
  replace q := q.trans (ba45.mono q.size)
  replace hok := hok.trans (bkept ba45 (fun j h => by have := h.1; have := hok.size; omega))
  have ya50 := hok.size
  refine ⟨hok, ?_⟩
  refine AA.one 21 (by kernel_rfl) ?_
  refine ZR.storeN (vs := [Value.int IntKind.i64 ↑(x0 % 256), Value.int IntKind.i64 ↑(gw ws 1), Value.int IntKind.u64 ↑(gw ws 2), Value.int IntKind.u64 ↑x3, Value.int IntKind.i64 ↑(gw ws 4), Value.slice none 0 0]) rfl rfl rfl rfl rfl ra48 (by exact Nat.le_of_ble_eq_true rfl) (ones_of rfl) rfl rfl ?_
  intro Wa52 ra53 ba51 za54
  have hlba51 := ra48.lt
  replace ra53 : RowL Wa52 _ 29 [Value.int IntKind.i64 ↑(x0 % 256), Value.int IntKind.i64 ↑(gw ws 1), Value.int IntKind.u64 ↑(gw ws 2), Value.int IntKind.u64 ↑x3, Value.int IntKind.i64 ↑(gw ws 4), Value.slice none 0 0] := ra53
  clear ra48
  replace ba45 := ba45.grown ba51 ba45.size (by rintro k ⟨⟩; omega)
  replace ba41 := ba41.grown ba51 ba41.size (by rintro k ⟨⟩; omega)
  replace ra4 := ra4.gr ba51 (by have := ra4.lt; omega)
  replace ba1 := ba1.grown ba51 ba1.size (by rintro k ⟨⟩; omega)
  replace q := q.grown ba51 q.size (by rintro k ⟨⟩; omega)
  replace hok := hok.trans (grown_kept ba51 (fun j h => by have := h.1; have := hok.size; omega) (fun j h e => by cases e; have h2 := h.1; have h3 := h.2; omega))
  have ra48 := ra53
  clear ra53
  refine ⟨hok, ?_⟩
  refine AA.done rfl ?_
  clear fzra4 hok
  refine EE.thenN ?_
  refine CC.seq ?_
  refine CC.seq ?_
  refine CC.region ?_
  refine LL.val (R.field rfl rfl (I.fld rfl)) rfl rfl rfl ?_
  refine LL.val (R.load rfl rfl (I.ld1 rfl (RowL.cell ra48 rfl))) rfl rfl rfl ?_
  refine LL.vsplit (fun h => R.eqT rfl rfl rfl h) (fun h => R.eqF rfl rfl rfl h) rfl rfl rfl (fun ca55 => ?_) (fun ca55 => ?_)
  refine LL.val (R.move rfl rfl) rfl rfl rfl ?_
  refine LL.val (R.field rfl rfl (I.fld rfl)) rfl rfl rfl ?_
  refine LL.val (R.load rfl rfl (I.ld1 rfl (RowL.cell ra48 rfl))) rfl rfl rfl ?_
  refine LL.vsplit (fun h => R.neT rfl rfl rfl h) (fun h => R.neF rfl rfl rfl (Decidable.not_not.1 h)) rfl rfl rfl (fun ca56 => ?_) (fun ca56 => ?_)
  refine LL.val (R.pick rfl rfl rfl) rfl rfl rfl ?_
  refine LL.val (R.move rfl rfl) rfl rfl rfl ?_
  refine LL.skip rfl rfl ?_
  refine LL.skip rfl rfl ?_
  refine LL.skip rfl rfl ?_
  refine LL.skip rfl rfl ?_
  refine LL.skip rfl rfl ?_
  refine LL.skip rfl rfl ?_
  refine LL.skip rfl rfl ?_
  refine LL.skip rfl rfl ?_
  refine LL.skip rfl rfl ?_
  refine LL.val (R.pick rfl rfl rfl) rfl rfl rfl ?_
  refine LL.nilS ?_
  refine CC.yes rfl ?_
  refine CC.seq ?_
  refine CC.region ?_
  refine LL.val (R.buildV rfl rfl (v := .agg #[Value.int IntKind.i64 0, Value.int IntKind.i64 0, Value.int IntKind.u64 0, Value.int IntKind.u64 0, Value.int IntKind.i64 0, Value.slice none 0 0]) (fun _ => by kernel_rfl)) rfl rfl rfl ?_
  refine LL.storeN (vs := [Value.int IntKind.i64 0, Value.int IntKind.i64 0, Value.int IntKind.u64 0, Value.int IntKind.u64 0, Value.int IntKind.i64 0, Value.slice none 0 0]) rfl rfl rfl rfl ra4 (by exact Nat.le_of_ble_eq_true rfl) (ones_of rfl) rfl rfl ?_
  intro Wa58 ra59 ba57 za60
  have hlba57 := ra4.lt
  replace ra59 : RowL Wa58 _ 29 [Value.int IntKind.i64 0, Value.int IntKind.i64 0, Value.int IntKind.u64 0, Value.int IntKind.u64 0, Value.int IntKind.i64 0, Value.slice none 0 0] := ra59
  clear ra4
  replace ba1 := ba1.grown ba57 ba1.size (by rintro k ⟨⟩; omega)
  replace q := q.grown ba57 q.size (by rintro k ⟨⟩; omega)
  replace ra48 := ra48.gr ba57 (by have := ra48.lt; omega)
  have ra4 := ra59
  clear ra59
  refine LL.val (R.assign rfl rfl) rfl rfl rfl ?_
  refine LL.nilS ?_
  refine CC.ret ?_
  refine EE.thenR ?_
  refine EE.ret2 rfl ⟨_, rfl, lvNc (RowL.cells0 (by assumption)) (by rfl) (by rfl)⟩ rfl ?_
  exact ⟨rfl, q⟩
  refine LL.val (R.pick rfl rfl rfl) rfl rfl rfl ?_
  refine LL.val (R.move rfl rfl) rfl rfl rfl ?_
  refine LL.val (R.field rfl rfl (I.fld rfl)) rfl rfl rfl ?_
  refine LL.val (R.load rfl rfl (I.ld1 rfl (RowL.cell ra48 rfl))) rfl rfl rfl ?_
  refine LL.val (R.gtF rfl rfl rfl (by omega)) rfl rfl rfl ?_
  refine LL.val (R.move rfl rfl) rfl rfl rfl ?_
  refine LL.skip rfl rfl ?_
  refine LL.skip rfl rfl ?_
  refine LL.skip rfl rfl ?_
  refine LL.skip rfl rfl ?_
  refine LL.val (R.pick rfl rfl rfl) rfl rfl rfl ?_
  refine LL.val (R.pick rfl rfl rfl) rfl rfl rfl ?_
  refine LL.nilS ?_
  refine CC.no rfl ?_
  refine CC.skip ?_
  refine EE.thenN ?_
  refine CC.seq ?_
  refine CC.freeZ (fun W_ j => j < W_.heap.size ∧ (j ≠ ga47)) (by kernel_rfl) (by kernel_rfl) (fun Wa65 ba64 za66 => ?_)
  replace ba45 := ba45.trans (ba64.mono ba45.size)
  replace ba41 := ba41.trans (ba64.mono ba41.size)
  replace ra4 := ra4.up ba64
  replace ba1 := ba1.trans (ba64.mono ba1.size)
  replace q := q.trans (ba64.mono q.size)
  replace ra48 := ra48.up ba64
  have hok : Kept (fun j => j < Wa65.heap.size ∧ (j ≠ ga47)) Wa65 Wa65 := Kept.refl _ _
  have fzra4 := fzRow (K := fun j => j < Wa65.heap.size ∧ (j ≠ ga47)) ra4 ⟨ra4.lt, (by first | trivial | omega)⟩
  refine AA.pure 0 rfl hok (by kernel_rfl) (fun w' b' => R.field rfl rfl (I.fld rfl)) rfl rfl ?_
  refine AA.pure 2 rfl hok (by kernel_rfl) (fun w' b' => R.move rfl rfl) rfl rfl ?_
  refine AA.two 1 3 (by kernel_rfl) ?_ ?_
  refine SR.val rfl (R.load rfl rfl (I.ld1 rfl (RowL.cell ra48 rfl))) rfl rfl hok ?_
  refine AA.one 3 (by kernel_rfl) ?_
  (exfalso; exact hP' ⟨⟨by omega, by omega⟩, by omega, by unfold ru3; omega, by omega, by omega, by omega, by omega⟩)
  (exfalso; exact hP' ⟨⟨by omega, by omega⟩, by omega, by unfold ru3; omega, by omega, by omega, by omega, by omega⟩)
  refine LL.val (R.move rfl rfl) rfl rfl rfl ?_
  refine LL.skip rfl rfl ?_
  refine LL.skip rfl rfl ?_
  refine LL.skip rfl rfl ?_
  refine LL.val (R.pick rfl rfl rfl) rfl rfl rfl ?_
  refine LL.val (R.move rfl rfl) rfl rfl rfl ?_
  refine LL.val (R.field rfl rfl (I.fld rfl)) rfl rfl rfl ?_
  refine LL.val (R.load rfl rfl (I.ld1 rfl (RowL.cell ra48 rfl))) rfl rfl rfl ?_
  refine LL.val (R.gtT rfl rfl rfl (by omega)) rfl rfl rfl ?_
  refine LL.val (R.move rfl rfl) rfl rfl rfl ?_
  refine LL.val (R.field rfl rfl (I.fld rfl)) rfl rfl rfl ?_
  refine LL.val (R.load rfl rfl (I.ld1 rfl (RowL.cell ra48 rfl))) rfl rfl rfl ?_
  refine LL.callD (R.call rfl rfl rfl) rfl rfl rfl (rblk_d _ _) (fun ca67 => ?_) (fun ca67 => ?_)
  refine LL.val (R.not rfl rfl) rfl rfl rfl ?_
  refine LL.val (R.pick rfl rfl rfl) rfl rfl rfl ?_
  refine LL.val (R.pick rfl rfl rfl) rfl rfl rfl ?_
  refine LL.nilS ?_
  refine CC.no rfl ?_
  refine CC.skip ?_
  refine EE.thenN ?_
  refine CC.seq ?_
  refine CC.freeZ (fun W_ j => j < W_.heap.size ∧ (j ≠ ga47)) (by kernel_rfl) (by kernel_rfl) (fun Wa72 ba71 za73 => ?_)
  replace ba45 := ba45.trans (ba71.mono ba45.size)
  replace ba41 := ba41.trans (ba71.mono ba41.size)
  replace ra4 := ra4.up ba71
  replace ba1 := ba1.trans (ba71.mono ba1.size)
  replace q := q.trans (ba71.mono q.size)
  replace ra48 := ra48.up ba71
  have hok : Kept (fun j => j < Wa72.heap.size ∧ (j ≠ ga47)) Wa72 Wa72 := Kept.refl _ _
  have fzra4 := fzRow (K := fun j => j < Wa72.heap.size ∧ (j ≠ ga47)) ra4 ⟨ra4.lt, (by first | trivial | omega)⟩
  refine AA.pure 0 rfl hok (by kernel_rfl) (fun w' b' => R.field rfl rfl (I.fld rfl)) rfl rfl ?_
  refine AA.pure 2 rfl hok (by kernel_rfl) (fun w' b' => R.move rfl rfl) rfl rfl ?_
  refine AA.two 1 3 (by kernel_rfl) ?_ ?_
  refine SR.val rfl (R.load rfl rfl (I.ld1 rfl (RowL.cell ra48 rfl))) rfl rfl hok ?_
  refine AA.one 3 (by kernel_rfl) ?_
  (exfalso; exact hP' ⟨⟨by omega, by omega⟩, by omega, by unfold ru3; omega, by omega, by omega, by omega, by omega⟩)
  (exfalso; exact hP' ⟨⟨by omega, by omega⟩, by omega, by unfold ru3; omega, by omega, by omega, by omega, by omega⟩)
  refine LL.val (R.not rfl rfl) rfl rfl rfl ?_
  refine LL.val (R.pick rfl rfl rfl) rfl rfl rfl ?_
  refine LL.val (R.pick rfl rfl rfl) rfl rfl rfl ?_
  refine LL.nilS ?_
  refine CC.yes rfl ?_
  refine CC.seq ?_
  refine CC.region ?_
  refine LL.val (R.buildV rfl rfl (v := .agg #[Value.int IntKind.i64 0, Value.int IntKind.i64 0, Value.int IntKind.u64 0, Value.int IntKind.u64 0, Value.int IntKind.i64 0, Value.slice none 0 0]) (fun _ => by kernel_rfl)) rfl rfl rfl ?_
  refine LL.storeN (vs := [Value.int IntKind.i64 0, Value.int IntKind.i64 0, Value.int IntKind.u64 0, Value.int IntKind.u64 0, Value.int IntKind.i64 0, Value.slice none 0 0]) rfl rfl rfl rfl ra4 (by exact Nat.le_of_ble_eq_true rfl) (ones_of rfl) rfl rfl ?_
  intro Wa75 ra76 ba74 za77
  have hlba74 := ra4.lt
  replace ra76 : RowL Wa75 _ 29 [Value.int IntKind.i64 0, Value.int IntKind.i64 0, Value.int IntKind.u64 0, Value.int IntKind.u64 0, Value.int IntKind.i64 0, Value.slice none 0 0] := ra76
  clear ra4
  replace ba1 := ba1.grown ba74 ba1.size (by rintro k ⟨⟩; omega)
  replace q := q.grown ba74 q.size (by rintro k ⟨⟩; omega)
  replace ra48 := ra48.gr ba74 (by have := ra48.lt; omega)
  have ra4 := ra76
  clear ra76
  refine LL.val (R.assign rfl rfl) rfl rfl rfl ?_
  refine LL.nilS ?_
  refine CC.ret ?_
  refine EE.thenR ?_
  refine EE.ret2 rfl ⟨_, rfl, lvNc (RowL.cells0 (by assumption)) (by rfl) (by rfl)⟩ rfl ?_
  exact ⟨rfl, q⟩
theorem rOf_yes (n : Nat) (v : Value) (ws : List Nat) (w : World) (hv : ReadsT uE 1 w v ws) (hn : ws.length = n) (hb : ∀ x ∈ ws, x < 18446744073709551616) (hP : nodeP ws) : Calls Try.prog 10 #[v] w fun e w' => (∃ vo, e = .returned (.tuple #[ndV ws vo, .int .i64 0]) ∧ OwnsT prE 2 w' w.heap.size 46 vo (readF (gw ws 3) (ws.drop 8))) ∧ Below w.heap.size w w' := by
  have q := Below.refl w.heap.size w
  obtain rfl : n = 64 := hn.symm.trans hP.1
  obtain ⟨bk, off, c, rfl, hc⟩ := sl64 hv hn
  have cF := cF_of hv hn
  have hbk := bk_of hv hn
  have hs : ∀ W, Below w.heap.size w W → ReadsT uE 1 W (.slice (some ⟨bk, off + 8 * 1, none⟩) (64 - 8) (c - 8)) (ws.drop 8) := fun W b => by
    have := ((uE_reads hv).below b).from 8 (by decide)
    rw [show (ints .u64 ws).drop 8 = ints .u64 (ws.drop 8) by simp [ints]] at this
    exact reads_uE this
  have hd8 : (ws.drop 8).length = 56 := by rw [List.length_drop, hn]
  have hh := hP.2
  have hrow : ¬noRow (gw ws 3) 56 := hd_row hh rfl
  have hrd := fun W (b : Below w.heap.size w W) => dread_any (gw ws 3) _ 56 (c - 8) (ws.drop 8) W (hs W b) hd8 (by decide)
  have epp : pairP (gw ws 3) (ws.drop 8) = readF (gw ws 3) (ws.drop 8) := (readF_row (by rw [hd8]; exact hrow)).symm
  rw [epp] at hrd
  have h0 := hh.a
  have h3 := hh.c
  have h1 := hh.b
  have h4 := hh.d
  have h5 := hh.e
  have h6 := hh.f
  have h7 := hh.g
  unfold ru1 at h0
  unfold ru3 at h3
  obtain ⟨x0, e0⟩ : ∃ x, gw ws 0 = x := ⟨_, rfl⟩
  obtain ⟨x3, e3⟩ : ∃ x, gw ws 3 = x := ⟨_, rfl⟩
  obtain ⟨ps, eps⟩ : ∃ x, readF (gw ws 3) (ws.drop 8) = x := ⟨_, rfl⟩
  unfold ndV
  rw [eps] at hrd ⊢
  rw [e3] at hrd h3 ⊢
  rw [e0] at h0 h3 ⊢
  have hx0 : 7522529147838689024 ≤ x0 ∧ x0 ≤ 7522529147838689036 := by omega
  have hsub := sub_mark hx0
  have cF0 := cF 0 (by decide)
  have cF3 := cF 3 (by decide)
  rw [e0] at cF0
  rw [e3] at cF3
  have hmk := fun h => sub_mark (x := x0) h
  clear hv hb hP hh epp hs eps e0 e3
  refine X.fn Try.func10 rfl (n := 101) rfl rfl ?_
  refine CC.seq ?_
  refine CC.region ?_
  refine LL.alloc ([Value.int IntKind.i64 0, Value.int IntKind.i64 0, Value.int IntKind.u64 0, Value.int IntKind.u64 0, Value.int IntKind.i64 0, Value.slice none 0 0]) rfl rfl rfl rfl rfl ?_
  intro W9 g10 eg10 r11 z12 b8
  replace q := q.trans (b8.mono q.size)
  refine LL.val (R.assign rfl rfl) rfl rfl rfl ?_
  refine LL.nilS ?_
  refine CC.seq ?_
  refine CC.seq ?_
  refine CC.region ?_
  refine LL.val (R.move rfl rfl) rfl rfl rfl ?_
  refine LL.val (R.len rfl rfl rfl rfl) rfl rfl rfl ?_
  refine LL.val (R.neF rfl rfl rfl (by omega)) rfl rfl rfl ?_
  refine LL.val (R.move rfl rfl) rfl rfl rfl ?_
  refine LL.val (R.move rfl rfl) rfl rfl rfl ?_
  refine LL.val (R.index rfl rfl rfl (I.ixS1c rfl rfl (by omega))) rfl rfl rfl ?_
  (refine LL.val (R.load rfl rfl (I.ld1 rfl (cF0 _ q))) rfl rfl rfl ?_)
  refine LL.val (R.ltF rfl rfl rfl (by omega)) rfl rfl rfl ?_
  refine LL.val (R.pick rfl rfl rfl) rfl rfl rfl ?_
  refine LL.val (R.move rfl rfl) rfl rfl rfl ?_
  refine LL.val (R.move rfl rfl) rfl rfl rfl ?_
  refine LL.val (R.index rfl rfl rfl (I.ixS1c rfl rfl (by omega))) rfl rfl rfl ?_
  (refine LL.val (R.load rfl rfl (I.ld1 rfl (cF0 _ q))) rfl rfl rfl ?_)
  refine LL.val (R.gtF rfl rfl rfl (by omega)) rfl rfl rfl ?_
  refine LL.val (R.pick rfl rfl rfl) rfl rfl rfl ?_
  refine LL.val (R.move rfl rfl) rfl rfl rfl ?_
  refine LL.val (R.move rfl rfl) rfl rfl rfl ?_
  refine LL.val (R.index rfl rfl rfl (I.ixS1c rfl rfl (by omega))) rfl rfl rfl ?_
  (refine LL.val (R.load rfl rfl (I.ld1 rfl (cF 1 (by decide) _ q))) rfl rfl rfl ?_)
  refine LL.val (R.gtF rfl rfl rfl (by omega)) rfl rfl rfl ?_
  refine LL.val (R.pick rfl rfl rfl) rfl rfl rfl ?_
  refine LL.val (R.move rfl rfl) rfl rfl rfl ?_
  refine LL.val (R.move rfl rfl) rfl rfl rfl ?_
  refine LL.val (R.index rfl rfl rfl (I.ixS1c rfl rfl (by omega))) rfl rfl rfl ?_
  (refine LL.val (R.load rfl rfl (I.ld1 rfl (cF 4 (by decide) _ q))) rfl rfl rfl ?_)
  refine LL.val (R.gtF rfl rfl rfl (by omega)) rfl rfl rfl ?_
  refine LL.val (R.pick rfl rfl rfl) rfl rfl rfl ?_
  refine LL.val (R.move rfl rfl) rfl rfl rfl ?_
  refine LL.val (R.move rfl rfl) rfl rfl rfl ?_
  refine LL.val (R.index rfl rfl rfl (I.ixS1c rfl rfl (by omega))) rfl rfl rfl ?_
  (refine LL.val (R.load rfl rfl (I.ld1 rfl (cF 5 (by decide) _ q))) rfl rfl rfl ?_)
  refine LL.val (R.neF rfl rfl rfl (by omega)) rfl rfl rfl ?_
  refine LL.val (R.pick rfl rfl rfl) rfl rfl rfl ?_
  refine LL.val (R.move rfl rfl) rfl rfl rfl ?_
  refine LL.val (R.move rfl rfl) rfl rfl rfl ?_
  refine LL.val (R.index rfl rfl rfl (I.ixS1c rfl rfl (by omega))) rfl rfl rfl ?_
  (refine LL.val (R.load rfl rfl (I.ld1 rfl (cF 6 (by decide) _ q))) rfl rfl rfl ?_)
  refine LL.val (R.neF rfl rfl rfl (by omega)) rfl rfl rfl ?_
  refine LL.val (R.pick rfl rfl rfl) rfl rfl rfl ?_
  refine LL.val (R.move rfl rfl) rfl rfl rfl ?_
  refine LL.val (R.move rfl rfl) rfl rfl rfl ?_
  refine LL.val (R.index rfl rfl rfl (I.ixS1c rfl rfl (by omega))) rfl rfl rfl ?_
  (refine LL.val (R.load rfl rfl (I.ld1 rfl (cF 7 (by decide) _ q))) rfl rfl rfl ?_)
  refine LL.val (R.neF rfl rfl rfl (by omega)) rfl rfl rfl ?_
  refine LL.val (R.pick rfl rfl rfl) rfl rfl rfl ?_
  refine LL.nilS ?_
  refine CC.no rfl ?_
  refine CC.skip ?_
  refine EE.thenN ?_
  refine CC.seq ?_
  refine CC.freeZ (fun W_ j => j < W_.heap.size ∧ (True)) (by kernel_rfl) (by kernel_rfl) (fun W382 b381 z383 => ?_)
  replace r11 := r11.up b381
  replace b8 := b8.trans (b381.mono b8.size)
  replace q := q.trans (b381.mono q.size)
  have hok : Kept (fun j => j < W382.heap.size ∧ (True)) W382 W382 := Kept.refl _ _
  have fzr11 := fzRow (K := fun j => j < W382.heap.size ∧ (True)) r11 ⟨r11.lt, (by first | trivial | omega)⟩
  refine AA.pure 0 rfl hok (by kernel_rfl) (fun w' b' => R.move rfl rfl) rfl rfl ?_
  refine AA.pure 1 rfl hok (by kernel_rfl) (fun w' b' => R.index rfl rfl rfl (I.ixS1c rfl rfl (by omega))) rfl rfl ?_
  refine AA.pure 2 rfl hok (by kernel_rfl) (fun w' b' => R.load rfl rfl (I.ld1 rfl (cell_kept (cF0 _ q) b' ⟨by have := q.size; omega, trivial⟩))) rfl rfl ?_
  refine AA.pure 3 rfl hok (by kernel_rfl) (fun w' b' => R.subU (b := 7522529147838689024) rfl rfl rfl (hmk ⟨by omega, by omega⟩)) rfl rfl ?_
  refine AA.pure 4 rfl hok (by kernel_rfl) (fun w' b' => R.convI rfl rfl rfl rfl (wrapI (by omega) (by omega))) rfl rfl ?_
  refine AA.pure 5 rfl hok (by kernel_rfl) (fun w' b' => R.move rfl rfl) rfl rfl ?_
  refine AA.pure 6 rfl hok (by kernel_rfl) (fun w' b' => R.index rfl rfl rfl (I.ixS1c rfl rfl (by omega))) rfl rfl ?_
  refine AA.pure 7 rfl hok (by kernel_rfl) (fun w' b' => R.load rfl rfl (I.ld1 rfl (cell_kept (cF 1 (by decide) _ q) b' ⟨by have := q.size; omega, trivial⟩))) rfl rfl ?_
  refine AA.pure 8 rfl hok (by kernel_rfl) (fun w' b' => R.convI rfl rfl rfl rfl (wrapI (by omega) (by omega))) rfl rfl ?_
  refine AA.pure 9 rfl hok (by kernel_rfl) (fun w' b' => R.move rfl rfl) rfl rfl ?_
  refine AA.pure 10 rfl hok (by kernel_rfl) (fun w' b' => R.index rfl rfl rfl (I.ixS1c rfl rfl (by omega))) rfl rfl ?_
  refine AA.pure 11 rfl hok (by kernel_rfl) (fun w' b' => R.load rfl rfl (I.ld1 rfl (cell_kept (cF 2 (by decide) _ q) b' ⟨by have := q.size; omega, trivial⟩))) rfl rfl ?_
  refine AA.pure 12 rfl hok (by kernel_rfl) (fun w' b' => R.move rfl rfl) rfl rfl ?_
  refine AA.pure 13 rfl hok (by kernel_rfl) (fun w' b' => R.index rfl rfl rfl (I.ixS1c rfl rfl (by omega))) rfl rfl ?_
  refine AA.pure 14 rfl hok (by kernel_rfl) (fun w' b' => R.load rfl rfl (I.ld1 rfl (cell_kept (cF3 _ q) b' ⟨by have := q.size; omega, trivial⟩))) rfl rfl ?_
  refine AA.pure 15 rfl hok (by kernel_rfl) (fun w' b' => R.move rfl rfl) rfl rfl ?_
  refine AA.pure 16 rfl hok (by kernel_rfl) (fun w' b' => R.index rfl rfl rfl (I.ixS1c rfl rfl (by omega))) rfl rfl ?_
  refine AA.pure 17 rfl hok (by kernel_rfl) (fun w' b' => R.load rfl rfl (I.ld1 rfl (cell_kept (cF 4 (by decide) _ q) b' ⟨by have := q.size; omega, trivial⟩))) rfl rfl ?_
  refine AA.pure 18 rfl hok (by kernel_rfl) (fun w' b' => R.convI rfl rfl rfl rfl (wrapI (by omega) (by omega))) rfl rfl ?_
  refine AA.pure 19 rfl hok (by kernel_rfl) (fun w' b' => R.buildV rfl rfl (v := .agg #[Value.int IntKind.i64 ↑(x0 % 256), Value.int IntKind.i64 ↑(gw ws 1), Value.int IntKind.u64 ↑(gw ws 2), Value.int IntKind.u64 ↑x3, Value.int IntKind.i64 ↑(gw ws 4), Value.slice none 0 0]) (fun _ => by kernel_rfl)) rfl rfl ?_
  refine AA.one 20 (by kernel_rfl) ?_
  have l392 := r11.lt
  refine ZR.alloc ([Value.int IntKind.i64 0, Value.int IntKind.i64 0, Value.int IntKind.u64 0, Value.int IntKind.u64 0, Value.int IntKind.i64 0, Value.slice none 0 0]) rfl rfl rfl rfl rfl rfl ?_
  intro W394 g395 eg395 r396 z397 b393
  replace b381 := b381.trans (b393.mono b381.size)
  replace r11 := r11.up b393
  replace b8 := b8.trans (b393.mono b8.size)
  replace q := q.trans (b393.mono q.size)
  replace hok := hok.trans (bkept b393 (fun j h => by have := h.1; have := hok.size; omega))
  have y398 := hok.size
  refine ⟨hok, ?_⟩
  refine AA.one 21 (by kernel_rfl) ?_
  refine ZR.storeN (vs := [Value.int IntKind.i64 ↑(x0 % 256), Value.int IntKind.i64 ↑(gw ws 1), Value.int IntKind.u64 ↑(gw ws 2), Value.int IntKind.u64 ↑x3, Value.int IntKind.i64 ↑(gw ws 4), Value.slice none 0 0]) rfl rfl rfl rfl rfl r396 (by exact Nat.le_of_ble_eq_true rfl) (ones_of rfl) rfl rfl ?_
  intro W409 r410 b408 z411
  have hlb408 := r396.lt
  replace r410 : RowL W409 _ 29 [Value.int IntKind.i64 ↑(x0 % 256), Value.int IntKind.i64 ↑(gw ws 1), Value.int IntKind.u64 ↑(gw ws 2), Value.int IntKind.u64 ↑x3, Value.int IntKind.i64 ↑(gw ws 4), Value.slice none 0 0] := r410
  clear r396
  replace b393 := b393.grown b408 b393.size (by rintro k ⟨⟩; omega)
  replace b381 := b381.grown b408 b381.size (by rintro k ⟨⟩; omega)
  replace r11 := r11.gr b408 (by have := r11.lt; omega)
  replace b8 := b8.grown b408 b8.size (by rintro k ⟨⟩; omega)
  replace q := q.grown b408 q.size (by rintro k ⟨⟩; omega)
  replace hok := hok.trans (grown_kept b408 (fun j h => by have := h.1; have := hok.size; omega) (fun j h e => by cases e; have h2 := h.1; have h3 := h.2; omega))
  have r396 := r410
  clear r410
  refine ⟨hok, ?_⟩
  refine AA.done rfl ?_
  clear fzr11 hok
  refine EE.thenN ?_
  refine CC.seq ?_
  refine CC.seq ?_
  refine CC.region ?_
  refine LL.val (R.field rfl rfl (I.fld rfl)) rfl rfl rfl ?_
  refine LL.val (R.load rfl rfl (I.ld1 rfl (RowL.cell r396 rfl))) rfl rfl rfl ?_
  refine LL.vsplit (fun h => R.eqT rfl rfl rfl h) (fun h => R.eqF rfl rfl rfl h) rfl rfl rfl (fun c439 => ?_) (fun c439 => ?_)
  refine LL.val (R.move rfl rfl) rfl rfl rfl ?_
  refine LL.val (R.field rfl rfl (I.fld rfl)) rfl rfl rfl ?_
  refine LL.val (R.load rfl rfl (I.ld1 rfl (RowL.cell r396 rfl))) rfl rfl rfl ?_
  refine LL.val (R.neF rfl rfl rfl (by omega)) rfl rfl rfl ?_
  refine LL.val (R.pick rfl rfl rfl) rfl rfl rfl ?_
  refine LL.val (R.move rfl rfl) rfl rfl rfl ?_
  refine LL.val (R.field rfl rfl (I.fld rfl)) rfl rfl rfl ?_
  refine LL.val (R.load rfl rfl (I.ld1 rfl (RowL.cell r396 rfl))) rfl rfl rfl ?_
  refine LL.val (R.gtF rfl rfl rfl (by omega)) rfl rfl rfl ?_
  refine LL.val (R.move rfl rfl) rfl rfl rfl ?_
  refine LL.skip rfl rfl ?_
  refine LL.skip rfl rfl ?_
  refine LL.skip rfl rfl ?_
  refine LL.skip rfl rfl ?_
  refine LL.val (R.pick rfl rfl rfl) rfl rfl rfl ?_
  refine LL.val (R.pick rfl rfl rfl) rfl rfl rfl ?_
  refine LL.nilS ?_
  refine CC.no rfl ?_
  refine CC.skip ?_
  refine EE.thenN ?_
  refine CC.seq ?_
  refine CC.freeZ (fun W_ j => j < W_.heap.size ∧ (j ≠ g395)) (by kernel_rfl) (by kernel_rfl) (fun W586 b585 z587 => ?_)
  replace b393 := b393.trans (b585.mono b393.size)
  replace b381 := b381.trans (b585.mono b381.size)
  replace r11 := r11.up b585
  replace b8 := b8.trans (b585.mono b8.size)
  replace q := q.trans (b585.mono q.size)
  replace r396 := r396.up b585
  have hok : Kept (fun j => j < W586.heap.size ∧ (j ≠ g395)) W586 W586 := Kept.refl _ _
  have fzr11 := fzRow (K := fun j => j < W586.heap.size ∧ (j ≠ g395)) r11 ⟨r11.lt, (by first | trivial | omega)⟩
  refine AA.pure 0 rfl hok (by kernel_rfl) (fun w' b' => R.field rfl rfl (I.fld rfl)) rfl rfl ?_
  refine AA.pure 2 rfl hok (by kernel_rfl) (fun w' b' => R.move rfl rfl) rfl rfl ?_
  refine AA.two 1 3 (by kernel_rfl) ?_ ?_
  refine SR.val rfl (R.load rfl rfl (I.ld1 rfl (RowL.cell r396 rfl))) rfl rfl hok ?_
  refine AA.one 3 (by kernel_rfl) ?_
  (refine SR.val rfl (R.slice rfl rfl rfl rfl rfl (I.slFrom (lo := 8) rfl (by omega) (by omega) (by omega))) rfl rfl hok ?_)
  refine AA.one 4 (by kernel_rfl) ?_
  have l601 := r11.lt
  have l602 := r396.lt
  (refine SR.call rfl (R.call rfl rfl rfl) rfl rfl (hrd _ q) ?_; rintro e W600 ⟨v1, v2, rfl, o1, o2, hd12, b597⟩; refine ⟨_, rfl, ?_⟩; obtain ⟨a1, c1, rfl, hc1⟩ := (o1.reads prEnc).form rfl; clear o2 hd12)
  have zb597 := b597.size
  replace b585 := b585.trans (b597.mono b585.size)
  replace b393 := b393.trans (b597.mono b393.size)
  replace b381 := b381.trans (b597.mono b381.size)
  replace r11 := r11.up b597
  replace b8 := b8.trans (b597.mono b8.size)
  replace q := q.trans (b597.mono q.size)
  replace r396 := r396.up b597
  replace hok := hok.trans (bkept b597 (fun j h => by have := h.1; have := hok.size; omega))
  have y606 := hok.size
  refine ⟨hok, ?_⟩
  refine AA.pure 5 rfl hok (by kernel_rfl) (fun w' b' => R.move rfl rfl) rfl rfl ?_
  refine AA.pure 6 rfl hok (by kernel_rfl) (fun w' b' => R.extract rfl rfl rfl) rfl rfl ?_
  refine AA.pure 7 rfl hok (by kernel_rfl) (fun w' b' => R.extract rfl rfl rfl) rfl rfl ?_
  refine AA.pure 8 rfl hok (by kernel_rfl) (fun w' b' => R.field rfl rfl (I.fld rfl)) rfl rfl ?_
  refine AA.one 9 (by kernel_rfl) ?_
  refine ZR.store rfl rfl rfl rfl rfl r396 (by exact Nat.le_of_ble_eq_true rfl) rfl rfl rfl rfl ?_
  intro W617 r618 b616 z619
  have hlb616 := r396.lt
  replace r618 : RowL W617 _ 29 [Value.int IntKind.i64 ↑(x0 % 256), Value.int IntKind.i64 ↑(gw ws 1), Value.int IntKind.u64 ↑(gw ws 2), Value.int IntKind.u64 ↑x3, Value.int IntKind.i64 ↑(gw ws 4), Value.slice a1 ps.length c1] := r618
  clear r396
  replace o1 := o1.grown b616 (own_ne o1 (by omega))
  replace b393 := b393.grown b616 b393.size (by rintro k ⟨⟩; omega)
  replace b381 := b381.grown b616 b381.size (by rintro k ⟨⟩; omega)
  replace r11 := r11.gr b616 (by have := r11.lt; omega)
  replace b8 := b8.grown b616 b8.size (by rintro k ⟨⟩; omega)
  replace q := q.grown b616 q.size (by rintro k ⟨⟩; omega)
  replace hok := hok.trans (grown_kept b616 (fun j h => by have := h.1; have := hok.size; omega) (fun j h e => by cases e; have h2 := h.1; have h3 := h.2; omega))
  have r396 := r618
  clear r618
  refine ⟨hok, ?_⟩
  refine AA.done rfl ?_
  clear fzr11 hok
  refine EE.thenN ?_
  refine CC.seq ?_
  refine CC.region ?_
  refine LL.val (R.load rfl rfl (I.ldNc (vs := [Value.int IntKind.i64 ↑(x0 % 256), Value.int IntKind.i64 ↑(gw ws 1), Value.int IntKind.u64 ↑(gw ws 2), Value.int IntKind.u64 ↑x3, Value.int IntKind.i64 ↑(gw ws 4), Value.slice a1 ps.length c1]) (RowL.cells r396 rfl) (by rfl) (by rfl))) rfl rfl rfl ?_
  refine LL.storeN (vs := [Value.int IntKind.i64 ↑(x0 % 256), Value.int IntKind.i64 ↑(gw ws 1), Value.int IntKind.u64 ↑(gw ws 2), Value.int IntKind.u64 ↑x3, Value.int IntKind.i64 ↑(gw ws 4), Value.slice a1 ps.length c1]) rfl rfl rfl rfl r11 (by exact Nat.le_of_ble_eq_true rfl) (ones_of rfl) rfl rfl ?_
  intro W639 r640 b638 z641
  have hlb638 := r11.lt
  replace r640 : RowL W639 _ 29 [Value.int IntKind.i64 ↑(x0 % 256), Value.int IntKind.i64 ↑(gw ws 1), Value.int IntKind.u64 ↑(gw ws 2), Value.int IntKind.u64 ↑x3, Value.int IntKind.i64 ↑(gw ws 4), Value.slice a1 ps.length c1] := r640
  clear r11
  replace o1 := o1.grown b638 (own_ne o1 (by omega))
  replace b8 := b8.grown b638 b8.size (by rintro k ⟨⟩; omega)
  replace q := q.grown b638 q.size (by rintro k ⟨⟩; omega)
  replace r396 := r396.gr b638 (by have := r396.lt; omega)
  have r11 := r640
  clear r640
  refine LL.val (R.assign rfl rfl) rfl rfl rfl ?_
  refine LL.nilS ?_
  refine CC.ret ?_
  refine EE.ret2 rfl ⟨_, rfl, lvNc (RowL.cells0 (by assumption)) (by rfl) (by rfl)⟩ rfl ?_
  exact ⟨⟨_, rfl, OwnsT.lower (by assumption) (by omega)⟩, q⟩
  (refine SR.val rfl (R.slice rfl rfl rfl rfl rfl (I.slFrom (lo := 8) rfl (by omega) (by omega) (by omega))) rfl rfl hok ?_)
  refine AA.one 1 (by kernel_rfl) ?_
  refine SR.val rfl (R.load rfl rfl (I.ld1 rfl (RowL.cell r396 rfl))) rfl rfl hok ?_
  refine AA.one 4 (by kernel_rfl) ?_
  have l664 := r11.lt
  have l665 := r396.lt
  (refine SR.call rfl (R.call rfl rfl rfl) rfl rfl (hrd _ q) ?_; rintro e W663 ⟨v1, v2, rfl, o1, o2, hd12, b660⟩; refine ⟨_, rfl, ?_⟩; obtain ⟨a1, c1, rfl, hc1⟩ := (o1.reads prEnc).form rfl; clear o2 hd12)
  have zb660 := b660.size
  replace b585 := b585.trans (b660.mono b585.size)
  replace b393 := b393.trans (b660.mono b393.size)
  replace b381 := b381.trans (b660.mono b381.size)
  replace r11 := r11.up b660
  replace b8 := b8.trans (b660.mono b8.size)
  replace q := q.trans (b660.mono q.size)
  replace r396 := r396.up b660
  replace hok := hok.trans (bkept b660 (fun j h => by have := h.1; have := hok.size; omega))
  have y669 := hok.size
  refine ⟨hok, ?_⟩
  refine AA.pure 5 rfl hok (by kernel_rfl) (fun w' b' => R.move rfl rfl) rfl rfl ?_
  refine AA.pure 6 rfl hok (by kernel_rfl) (fun w' b' => R.extract rfl rfl rfl) rfl rfl ?_
  refine AA.pure 7 rfl hok (by kernel_rfl) (fun w' b' => R.extract rfl rfl rfl) rfl rfl ?_
  refine AA.pure 8 rfl hok (by kernel_rfl) (fun w' b' => R.field rfl rfl (I.fld rfl)) rfl rfl ?_
  refine AA.one 9 (by kernel_rfl) ?_
  refine ZR.store rfl rfl rfl rfl rfl r396 (by exact Nat.le_of_ble_eq_true rfl) rfl rfl rfl rfl ?_
  intro W680 r681 b679 z682
  have hlb679 := r396.lt
  replace r681 : RowL W680 _ 29 [Value.int IntKind.i64 ↑(x0 % 256), Value.int IntKind.i64 ↑(gw ws 1), Value.int IntKind.u64 ↑(gw ws 2), Value.int IntKind.u64 ↑x3, Value.int IntKind.i64 ↑(gw ws 4), Value.slice a1 ps.length c1] := r681
  clear r396
  replace o1 := o1.grown b679 (own_ne o1 (by omega))
  replace b393 := b393.grown b679 b393.size (by rintro k ⟨⟩; omega)
  replace b381 := b381.grown b679 b381.size (by rintro k ⟨⟩; omega)
  replace r11 := r11.gr b679 (by have := r11.lt; omega)
  replace b8 := b8.grown b679 b8.size (by rintro k ⟨⟩; omega)
  replace q := q.grown b679 q.size (by rintro k ⟨⟩; omega)
  replace hok := hok.trans (grown_kept b679 (fun j h => by have := h.1; have := hok.size; omega) (fun j h e => by cases e; have h2 := h.1; have h3 := h.2; omega))
  have r396 := r681
  clear r681
  refine ⟨hok, ?_⟩
  refine AA.done rfl ?_
  clear fzr11 hok
  refine EE.thenN ?_
  refine CC.seq ?_
  refine CC.region ?_
  refine LL.val (R.load rfl rfl (I.ldNc (vs := [Value.int IntKind.i64 ↑(x0 % 256), Value.int IntKind.i64 ↑(gw ws 1), Value.int IntKind.u64 ↑(gw ws 2), Value.int IntKind.u64 ↑x3, Value.int IntKind.i64 ↑(gw ws 4), Value.slice a1 ps.length c1]) (RowL.cells r396 rfl) (by rfl) (by rfl))) rfl rfl rfl ?_
  refine LL.storeN (vs := [Value.int IntKind.i64 ↑(x0 % 256), Value.int IntKind.i64 ↑(gw ws 1), Value.int IntKind.u64 ↑(gw ws 2), Value.int IntKind.u64 ↑x3, Value.int IntKind.i64 ↑(gw ws 4), Value.slice a1 ps.length c1]) rfl rfl rfl rfl r11 (by exact Nat.le_of_ble_eq_true rfl) (ones_of rfl) rfl rfl ?_
  intro W702 r703 b701 z704
  have hlb701 := r11.lt
  replace r703 : RowL W702 _ 29 [Value.int IntKind.i64 ↑(x0 % 256), Value.int IntKind.i64 ↑(gw ws 1), Value.int IntKind.u64 ↑(gw ws 2), Value.int IntKind.u64 ↑x3, Value.int IntKind.i64 ↑(gw ws 4), Value.slice a1 ps.length c1] := r703
  clear r11
  replace o1 := o1.grown b701 (own_ne o1 (by omega))
  replace b8 := b8.grown b701 b8.size (by rintro k ⟨⟩; omega)
  replace q := q.grown b701 q.size (by rintro k ⟨⟩; omega)
  replace r396 := r396.gr b701 (by have := r396.lt; omega)
  have r11 := r703
  clear r703
  refine LL.val (R.assign rfl rfl) rfl rfl rfl ?_
  refine LL.nilS ?_
  refine CC.ret ?_
  refine EE.ret2 rfl ⟨_, rfl, lvNc (RowL.cells0 (by assumption)) (by rfl) (by rfl)⟩ rfl ?_
  exact ⟨⟨_, rfl, OwnsT.lower (by assumption) (by omega)⟩, q⟩
  refine LL.val (R.move rfl rfl) rfl rfl rfl ?_
  refine LL.skip rfl rfl ?_
  refine LL.skip rfl rfl ?_
  refine LL.skip rfl rfl ?_
  refine LL.val (R.pick rfl rfl rfl) rfl rfl rfl ?_
  refine LL.val (R.move rfl rfl) rfl rfl rfl ?_
  refine LL.val (R.field rfl rfl (I.fld rfl)) rfl rfl rfl ?_
  refine LL.val (R.load rfl rfl (I.ld1 rfl (RowL.cell r396 rfl))) rfl rfl rfl ?_
  refine LL.val (R.gtT rfl rfl rfl (by omega)) rfl rfl rfl ?_
  refine LL.val (R.move rfl rfl) rfl rfl rfl ?_
  refine LL.val (R.field rfl rfl (I.fld rfl)) rfl rfl rfl ?_
  refine LL.val (R.load rfl rfl (I.ld1 rfl (RowL.cell r396 rfl))) rfl rfl rfl ?_
  refine LL.callDT (R.call rfl rfl rfl) rfl rfl rfl (rblk_d _ _) (by first | assumption | omega) ?_
  refine LL.val (R.not rfl rfl) rfl rfl rfl ?_
  refine LL.val (R.pick rfl rfl rfl) rfl rfl rfl ?_
  refine LL.val (R.pick rfl rfl rfl) rfl rfl rfl ?_
  refine LL.nilS ?_
  refine CC.no rfl ?_
  refine CC.skip ?_
  refine EE.thenN ?_
  refine CC.seq ?_
  refine CC.freeZ (fun W_ j => j < W_.heap.size ∧ (j ≠ g395)) (by kernel_rfl) (by kernel_rfl) (fun W869 b868 z870 => ?_)
  replace b393 := b393.trans (b868.mono b393.size)
  replace b381 := b381.trans (b868.mono b381.size)
  replace r11 := r11.up b868
  replace b8 := b8.trans (b868.mono b8.size)
  replace q := q.trans (b868.mono q.size)
  replace r396 := r396.up b868
  have hok : Kept (fun j => j < W869.heap.size ∧ (j ≠ g395)) W869 W869 := Kept.refl _ _
  have fzr11 := fzRow (K := fun j => j < W869.heap.size ∧ (j ≠ g395)) r11 ⟨r11.lt, (by first | trivial | omega)⟩
  refine AA.pure 0 rfl hok (by kernel_rfl) (fun w' b' => R.field rfl rfl (I.fld rfl)) rfl rfl ?_
  refine AA.pure 2 rfl hok (by kernel_rfl) (fun w' b' => R.move rfl rfl) rfl rfl ?_
  refine AA.two 1 3 (by kernel_rfl) ?_ ?_
  refine SR.val rfl (R.load rfl rfl (I.ld1 rfl (RowL.cell r396 rfl))) rfl rfl hok ?_
  refine AA.one 3 (by kernel_rfl) ?_
  (refine SR.val rfl (R.slice rfl rfl rfl rfl rfl (I.slFrom (lo := 8) rfl (by omega) (by omega) (by omega))) rfl rfl hok ?_)
  refine AA.one 4 (by kernel_rfl) ?_
  have l884 := r11.lt
  have l885 := r396.lt
  (refine SR.call rfl (R.call rfl rfl rfl) rfl rfl (hrd _ q) ?_; rintro e W883 ⟨v1, v2, rfl, o1, o2, hd12, b880⟩; refine ⟨_, rfl, ?_⟩; obtain ⟨a1, c1, rfl, hc1⟩ := (o1.reads prEnc).form rfl; clear o2 hd12)
  have zb880 := b880.size
  replace b868 := b868.trans (b880.mono b868.size)
  replace b393 := b393.trans (b880.mono b393.size)
  replace b381 := b381.trans (b880.mono b381.size)
  replace r11 := r11.up b880
  replace b8 := b8.trans (b880.mono b8.size)
  replace q := q.trans (b880.mono q.size)
  replace r396 := r396.up b880
  replace hok := hok.trans (bkept b880 (fun j h => by have := h.1; have := hok.size; omega))
  have y889 := hok.size
  refine ⟨hok, ?_⟩
  refine AA.pure 5 rfl hok (by kernel_rfl) (fun w' b' => R.move rfl rfl) rfl rfl ?_
  refine AA.pure 6 rfl hok (by kernel_rfl) (fun w' b' => R.extract rfl rfl rfl) rfl rfl ?_
  refine AA.pure 7 rfl hok (by kernel_rfl) (fun w' b' => R.extract rfl rfl rfl) rfl rfl ?_
  refine AA.pure 8 rfl hok (by kernel_rfl) (fun w' b' => R.field rfl rfl (I.fld rfl)) rfl rfl ?_
  refine AA.one 9 (by kernel_rfl) ?_
  refine ZR.store rfl rfl rfl rfl rfl r396 (by exact Nat.le_of_ble_eq_true rfl) rfl rfl rfl rfl ?_
  intro W900 r901 b899 z902
  have hlb899 := r396.lt
  replace r901 : RowL W900 _ 29 [Value.int IntKind.i64 ↑(x0 % 256), Value.int IntKind.i64 ↑(gw ws 1), Value.int IntKind.u64 ↑(gw ws 2), Value.int IntKind.u64 ↑x3, Value.int IntKind.i64 ↑(gw ws 4), Value.slice a1 ps.length c1] := r901
  clear r396
  replace o1 := o1.grown b899 (own_ne o1 (by omega))
  replace b393 := b393.grown b899 b393.size (by rintro k ⟨⟩; omega)
  replace b381 := b381.grown b899 b381.size (by rintro k ⟨⟩; omega)
  replace r11 := r11.gr b899 (by have := r11.lt; omega)
  replace b8 := b8.grown b899 b8.size (by rintro k ⟨⟩; omega)
  replace q := q.grown b899 q.size (by rintro k ⟨⟩; omega)
  replace hok := hok.trans (grown_kept b899 (fun j h => by have := h.1; have := hok.size; omega) (fun j h e => by cases e; have h2 := h.1; have h3 := h.2; omega))
  have r396 := r901
  clear r901
  refine ⟨hok, ?_⟩
  refine AA.done rfl ?_
  clear fzr11 hok
  refine EE.thenN ?_
  refine CC.seq ?_
  refine CC.region ?_
  refine LL.val (R.load rfl rfl (I.ldNc (vs := [Value.int IntKind.i64 ↑(x0 % 256), Value.int IntKind.i64 ↑(gw ws 1), Value.int IntKind.u64 ↑(gw ws 2), Value.int IntKind.u64 ↑x3, Value.int IntKind.i64 ↑(gw ws 4), Value.slice a1 ps.length c1]) (RowL.cells r396 rfl) (by rfl) (by rfl))) rfl rfl rfl ?_
  refine LL.storeN (vs := [Value.int IntKind.i64 ↑(x0 % 256), Value.int IntKind.i64 ↑(gw ws 1), Value.int IntKind.u64 ↑(gw ws 2), Value.int IntKind.u64 ↑x3, Value.int IntKind.i64 ↑(gw ws 4), Value.slice a1 ps.length c1]) rfl rfl rfl rfl r11 (by exact Nat.le_of_ble_eq_true rfl) (ones_of rfl) rfl rfl ?_
  intro W922 r923 b921 z924
  have hlb921 := r11.lt
  replace r923 : RowL W922 _ 29 [Value.int IntKind.i64 ↑(x0 % 256), Value.int IntKind.i64 ↑(gw ws 1), Value.int IntKind.u64 ↑(gw ws 2), Value.int IntKind.u64 ↑x3, Value.int IntKind.i64 ↑(gw ws 4), Value.slice a1 ps.length c1] := r923
  clear r11
  replace o1 := o1.grown b921 (own_ne o1 (by omega))
  replace b8 := b8.grown b921 b8.size (by rintro k ⟨⟩; omega)
  replace q := q.grown b921 q.size (by rintro k ⟨⟩; omega)
  replace r396 := r396.gr b921 (by have := r396.lt; omega)
  have r11 := r923
  clear r923
  refine LL.val (R.assign rfl rfl) rfl rfl rfl ?_
  refine LL.nilS ?_
  refine CC.ret ?_
  refine EE.ret2 rfl ⟨_, rfl, lvNc (RowL.cells0 (by assumption)) (by rfl) (by rfl)⟩ rfl ?_
  exact ⟨⟨_, rfl, OwnsT.lower (by assumption) (by omega)⟩, q⟩
  (refine SR.val rfl (R.slice rfl rfl rfl rfl rfl (I.slFrom (lo := 8) rfl (by omega) (by omega) (by omega))) rfl rfl hok ?_)
  refine AA.one 1 (by kernel_rfl) ?_
  refine SR.val rfl (R.load rfl rfl (I.ld1 rfl (RowL.cell r396 rfl))) rfl rfl hok ?_
  refine AA.one 4 (by kernel_rfl) ?_
  have l947 := r11.lt
  have l948 := r396.lt
  (refine SR.call rfl (R.call rfl rfl rfl) rfl rfl (hrd _ q) ?_; rintro e W946 ⟨v1, v2, rfl, o1, o2, hd12, b943⟩; refine ⟨_, rfl, ?_⟩; obtain ⟨a1, c1, rfl, hc1⟩ := (o1.reads prEnc).form rfl; clear o2 hd12)
  have zb943 := b943.size
  replace b868 := b868.trans (b943.mono b868.size)
  replace b393 := b393.trans (b943.mono b393.size)
  replace b381 := b381.trans (b943.mono b381.size)
  replace r11 := r11.up b943
  replace b8 := b8.trans (b943.mono b8.size)
  replace q := q.trans (b943.mono q.size)
  replace r396 := r396.up b943
  replace hok := hok.trans (bkept b943 (fun j h => by have := h.1; have := hok.size; omega))
  have y952 := hok.size
  refine ⟨hok, ?_⟩
  refine AA.pure 5 rfl hok (by kernel_rfl) (fun w' b' => R.move rfl rfl) rfl rfl ?_
  refine AA.pure 6 rfl hok (by kernel_rfl) (fun w' b' => R.extract rfl rfl rfl) rfl rfl ?_
  refine AA.pure 7 rfl hok (by kernel_rfl) (fun w' b' => R.extract rfl rfl rfl) rfl rfl ?_
  refine AA.pure 8 rfl hok (by kernel_rfl) (fun w' b' => R.field rfl rfl (I.fld rfl)) rfl rfl ?_
  refine AA.one 9 (by kernel_rfl) ?_
  refine ZR.store rfl rfl rfl rfl rfl r396 (by exact Nat.le_of_ble_eq_true rfl) rfl rfl rfl rfl ?_
  intro W963 r964 b962 z965
  have hlb962 := r396.lt
  replace r964 : RowL W963 _ 29 [Value.int IntKind.i64 ↑(x0 % 256), Value.int IntKind.i64 ↑(gw ws 1), Value.int IntKind.u64 ↑(gw ws 2), Value.int IntKind.u64 ↑x3, Value.int IntKind.i64 ↑(gw ws 4), Value.slice a1 ps.length c1] := r964
  clear r396
  replace o1 := o1.grown b962 (own_ne o1 (by omega))
  replace b393 := b393.grown b962 b393.size (by rintro k ⟨⟩; omega)
  replace b381 := b381.grown b962 b381.size (by rintro k ⟨⟩; omega)
  replace r11 := r11.gr b962 (by have := r11.lt; omega)
  replace b8 := b8.grown b962 b8.size (by rintro k ⟨⟩; omega)
  replace q := q.grown b962 q.size (by rintro k ⟨⟩; omega)
  replace hok := hok.trans (grown_kept b962 (fun j h => by have := h.1; have := hok.size; omega) (fun j h e => by cases e; have h2 := h.1; have h3 := h.2; omega))
  have r396 := r964
  clear r964
  refine ⟨hok, ?_⟩
  refine AA.done rfl ?_
  clear fzr11 hok
  refine EE.thenN ?_
  refine CC.seq ?_
  refine CC.region ?_
  refine LL.val (R.load rfl rfl (I.ldNc (vs := [Value.int IntKind.i64 ↑(x0 % 256), Value.int IntKind.i64 ↑(gw ws 1), Value.int IntKind.u64 ↑(gw ws 2), Value.int IntKind.u64 ↑x3, Value.int IntKind.i64 ↑(gw ws 4), Value.slice a1 ps.length c1]) (RowL.cells r396 rfl) (by rfl) (by rfl))) rfl rfl rfl ?_
  refine LL.storeN (vs := [Value.int IntKind.i64 ↑(x0 % 256), Value.int IntKind.i64 ↑(gw ws 1), Value.int IntKind.u64 ↑(gw ws 2), Value.int IntKind.u64 ↑x3, Value.int IntKind.i64 ↑(gw ws 4), Value.slice a1 ps.length c1]) rfl rfl rfl rfl r11 (by exact Nat.le_of_ble_eq_true rfl) (ones_of rfl) rfl rfl ?_
  intro W985 r986 b984 z987
  have hlb984 := r11.lt
  replace r986 : RowL W985 _ 29 [Value.int IntKind.i64 ↑(x0 % 256), Value.int IntKind.i64 ↑(gw ws 1), Value.int IntKind.u64 ↑(gw ws 2), Value.int IntKind.u64 ↑x3, Value.int IntKind.i64 ↑(gw ws 4), Value.slice a1 ps.length c1] := r986
  clear r11
  replace o1 := o1.grown b984 (own_ne o1 (by omega))
  replace b8 := b8.grown b984 b8.size (by rintro k ⟨⟩; omega)
  replace q := q.grown b984 q.size (by rintro k ⟨⟩; omega)
  replace r396 := r396.gr b984 (by have := r396.lt; omega)
  have r11 := r986
  clear r986
  refine LL.val (R.assign rfl rfl) rfl rfl rfl ?_
  refine LL.nilS ?_
  refine CC.ret ?_
  refine EE.ret2 rfl ⟨_, rfl, lvNc (RowL.cells0 (by assumption)) (by rfl) (by rfl)⟩ rfl ?_
  exact ⟨⟨_, rfl, OwnsT.lower (by assumption) (by omega)⟩, q⟩
end Go.Proofs.Ytfplilpefhhpnaa
/- node: the document's Check (written by gennd21.py). -/
namespace Go.Proofs.Ytfplilpefhhpnaa
set_option linter.unusedVariables false
set_option linter.unusedSimpArgs false
open Go.RowKit Go.Shelf
set_option maxRecDepth 100000
set_option maxHeartbeats 8000000
def okPr (l lo : Nat) (x : Pr) : Prop := okP l x.2 ∧ okK l lo x.1
theorem rCheck_no (n : Nat) (v : Value) (ws : List Nat) (w : World) (hv : ReadsT uE 1 w v ws) (hn : ws.length = n) (hb : ∀ x ∈ ws, x < 18446744073709551616) (hP : ¬nodeP ws) : Calls Try.prog 14 #[v] w fun e w' => e = .returned (.int .i64 (210)) ∧ Below w.heap.size w w' := by
  have q := Below.refl w.heap.size w
  obtain ⟨a, c, rfl, hc⟩ := hv.form hn
  have hof := fun W (b : Below w.heap.size w W) => rOf_no n _ ws W (hv.up b) hn hb hP
  clear hv hb
  refine X.fn Try.func14 rfl (n := 58) rfl rfl ?_
  refine CC.seq ?_
  refine CC.region ?_
  refine LL.val (R.assign rfl rfl) rfl rfl rfl ?_
  refine LL.nilS ?_
  refine CC.seq ?_
  refine CC.region ?_
  refine LL.val (R.move rfl rfl) rfl rfl rfl ?_
  (refine LL.call (R.call rfl rfl rfl) rfl rfl rfl (hof _ q) ?_; rintro e W18 ⟨rfl, b15⟩; refine ⟨_, rfl, ?_⟩)
  have zb15 := b15.size
  replace q := q.trans (b15.mono q.size)
  refine LL.val (R.move rfl rfl) rfl rfl rfl ?_
  refine LL.val (R.extract rfl rfl rfl) rfl rfl rfl ?_
  refine LL.val (R.extract rfl rfl rfl) rfl rfl rfl ?_
  refine LL.alloc ([Value.int IntKind.i64 0, Value.int IntKind.i64 0, Value.int IntKind.u64 0, Value.int IntKind.u64 0, Value.int IntKind.i64 0, Value.slice none 0 0]) rfl rfl rfl rfl rfl ?_
  intro W51 g52 eg52 r53 z54 b50
  replace b15 := b15.trans (b50.mono b15.size)
  replace q := q.trans (b50.mono q.size)
  refine LL.storeN (vs := [Value.int IntKind.i64 0, Value.int IntKind.i64 0, Value.int IntKind.u64 ↑0, Value.int IntKind.u64 ↑0, Value.int IntKind.i64 0, nilV]) rfl rfl rfl rfl r53 (by exact Nat.le_of_ble_eq_true rfl) (ones_of rfl) rfl rfl ?_
  intro W64 r65 b63 z66
  have hlb63 := r53.lt
  replace r65 : RowL W64 _ 29 [Value.int IntKind.i64 0, Value.int IntKind.i64 0, Value.int IntKind.u64 ↑0, Value.int IntKind.u64 ↑0, Value.int IntKind.i64 0, nilV] := r65
  clear r53
  replace b50 := b50.grown b63 b50.size (by rintro k ⟨⟩; omega)
  replace b15 := b15.grown b63 b15.size (by rintro k ⟨⟩; omega)
  replace q := q.grown b63 q.size (by rintro k ⟨⟩; omega)
  have r53 := r65
  clear r65
  refine LL.val (R.assign rfl rfl) rfl rfl rfl ?_
  refine LL.nilS ?_
  refine CC.seq ?_
  refine CC.seq ?_
  refine CC.region ?_
  refine LL.val (R.move rfl rfl) rfl rfl rfl ?_
  refine LL.val (R.neT rfl rfl rfl (by omega)) rfl rfl rfl ?_
  refine LL.nilS ?_
  refine CC.yes rfl ?_
  refine CC.seq ?_
  refine CC.region ?_
  refine LL.val (R.move rfl rfl) rfl rfl rfl ?_
  refine LL.val (R.assign rfl rfl) rfl rfl rfl ?_
  refine LL.nilS ?_
  refine CC.ret ?_
  refine EE.thenR ?_
  refine EE.ret _ rfl rfl ?_
  exact ⟨rfl, q⟩
--C ref09_Check | hck @w (q.trans (b'.mono q.size)) | ⟨rfl, @b⟩
--C ref09_Check | hck @w q | ⟨rfl, @b⟩
--C ref11_Right | hrt @w | S
theorem rCheck_row (n : Nat) (v : Value) (ws : List Nat) (w : World) (hv : ReadsT uE 1 w v ws) (hn : ws.length = n) (hb : ∀ x ∈ ws, x < 18446744073709551616) (hP : nodeP ws) (b : Bool) (hb2 : b = true ↔ ∀ x ∈ readF (gw ws 3) (ws.drop 8), okPr (gw ws 0 % 256) (gw ws 2) x) (cN : Nat) (hcT : setP (gw ws 3) (ws.drop 8) ∧ b = true → cN = 0) (hcF : ¬(setP (gw ws 3) (ws.drop 8) ∧ b = true) → cN = 190) : Calls Try.prog 14 #[v] w fun e w' => e = .returned (.int .i64 (cN : Int)) ∧ Below w.heap.size w w' := by
  have q := Below.refl w.heap.size w
  obtain rfl : n = 64 := hn.symm.trans hP.1
  obtain ⟨bk, off, c, rfl, hc⟩ := sl64 hv hn
  have hof := fun W (b : Below w.heap.size w W) => rOf_yes 64 _ ws W (hv.up b) hn hb hP
  unfold ndV at hof
  have hd8 : (ws.drop 8).length = 56 := by rw [List.length_drop, hn]
  have hrow : ¬noRow (gw ws 3) 56 := hd_row hP.2 rfl
  have hs : ∀ W, Below w.heap.size w W → ReadsT uE 1 W (.slice (some ⟨bk, off + 8 * 1, none⟩) (64 - 8) (c - 8)) (ws.drop 8) := fun W b => by
    have := ((uE_reads hv).below b).from 8 (by decide)
    rw [show (ints .u64 ws).drop 8 = ints .u64 (ws.drop 8) by simp [ints]] at this
    exact reads_uE this
  have hck := fun W (b : Below w.heap.size w W) => dcheck_any (gw ws 3) 56 _ (ws.drop 8) W (hs W b) hd8 (by decide)
  unfold checkF at hck
  rw [hd8] at hck
  have hN28 : (readF (gw ws 3) (ws.drop 8)).length ≤ 28 := by
    have := readF_len (gw ws 3) (ws.drop 8)
    rw [hd8] at this
    omega
  obtain ⟨ps, eps⟩ : ∃ x, readF (gw ws 3) (ws.drop 8) = x := ⟨_, rfl⟩
  obtain ⟨N, hN⟩ : ∃ N, ps.length = N := ⟨_, rfl⟩
  obtain ⟨l0, hl0⟩ : ∃ l, gw ws 0 % 256 = l := ⟨_, rfl⟩
  obtain ⟨lo, hlo⟩ : ∃ l, gw ws 2 = l := ⟨_, rfl⟩
  obtain ⟨s1, hs1⟩ : ∃ l, gw ws 1 = l := ⟨_, rfl⟩
  obtain ⟨wy, hwy⟩ : ∃ l, gw ws 4 = l := ⟨_, rfl⟩
  obtain ⟨le, hle⟩ : ∃ l, gw ws 3 = l := ⟨_, rfl⟩
  rw [eps] at hof hN28 hb2
  rw [hl0] at hof hb2
  rw [hlo] at hof hb2
  rw [hs1, hwy] at hof
  rw [hle] at hof hck hcT hcF hrow
  rw [hN] at hN28
  rw [if_neg hrow] at hck
  clear hv hb hP eps hs hl0 hlo hle hrow hs1 hwy
  by_cases hset : setP le (ws.drop 8)
  case neg =>
    rw [if_neg hset] at hck
    obtain rfl := hcF fun h => hset h.1
    clear hset hb2 hcT hcF
    refine X.fn Try.func14 rfl (n := 58) rfl rfl ?_
    refine CC.seq ?_
    refine CC.region ?_
    refine LL.val (R.assign rfl rfl) rfl rfl rfl ?_
    refine LL.nilS ?_
    refine CC.seq ?_
    refine CC.region ?_
    refine LL.val (R.move rfl rfl) rfl rfl rfl ?_
    (refine LL.call (R.call rfl rfl rfl) rfl rfl rfl (hof _ q) ?_; rintro e W18 ⟨⟨vo, rfl, oo⟩, b15⟩; refine ⟨_, rfl, ?_⟩; obtain ⟨ao, co, rfl, hco⟩ := (oo.reads prEnc).form hN; clear oo)
    have zb15 := b15.size
    replace q := q.trans (b15.mono q.size)
    refine LL.val (R.move rfl rfl) rfl rfl rfl ?_
    refine LL.val (R.extract rfl rfl rfl) rfl rfl rfl ?_
    refine LL.val (R.extract rfl rfl rfl) rfl rfl rfl ?_
    refine LL.alloc ([Value.int IntKind.i64 0, Value.int IntKind.i64 0, Value.int IntKind.u64 0, Value.int IntKind.u64 0, Value.int IntKind.i64 0, Value.slice none 0 0]) rfl rfl rfl rfl rfl ?_
    intro W51 g52 eg52 r53 z54 b50
    replace b15 := b15.trans (b50.mono b15.size)
    replace q := q.trans (b50.mono q.size)
    refine LL.storeN (vs := [Value.int IntKind.i64 ↑l0, Value.int IntKind.i64 ↑s1, Value.int IntKind.u64 ↑lo, Value.int IntKind.u64 ↑le, Value.int IntKind.i64 ↑wy, Value.slice ao N co]) rfl rfl rfl rfl r53 (by exact Nat.le_of_ble_eq_true rfl) (ones_of rfl) rfl rfl ?_
    intro W64 r65 b63 z66
    have hlb63 := r53.lt
    replace r65 : RowL W64 _ 29 [Value.int IntKind.i64 ↑l0, Value.int IntKind.i64 ↑s1, Value.int IntKind.u64 ↑lo, Value.int IntKind.u64 ↑le, Value.int IntKind.i64 ↑wy, Value.slice ao N co] := r65
    clear r53
    replace b50 := b50.grown b63 b50.size (by rintro k ⟨⟩; omega)
    replace b15 := b15.grown b63 b15.size (by rintro k ⟨⟩; omega)
    replace q := q.grown b63 q.size (by rintro k ⟨⟩; omega)
    have r53 := r65
    clear r65
    refine LL.val (R.assign rfl rfl) rfl rfl rfl ?_
    refine LL.nilS ?_
    refine CC.seq ?_
    refine CC.seq ?_
    refine CC.region ?_
    refine LL.val (R.move rfl rfl) rfl rfl rfl ?_
    refine LL.val (R.neF rfl rfl rfl (by omega)) rfl rfl rfl ?_
    refine LL.nilS ?_
    refine CC.no rfl ?_
    refine CC.skip ?_
    refine EE.thenN ?_
    refine CC.seq ?_
    refine CC.seq ?_
    refine CC.grow (by kernel_rfl) (by kernel_rfl) ?_
    refine GG.val (fun w' b' => R.field rfl rfl (I.fld rfl)) rfl rfl ?_
    refine GG.val (fun w' b' => R.load rfl rfl (I.ld1 rfl (RowL.cell (r53.up b') rfl))) rfl rfl ?_
    refine GG.val (fun w' b' => R.move rfl rfl) rfl rfl ?_
    (refine GG.val (fun w' b' => R.slice rfl rfl rfl rfl rfl (I.slFrom (lo := 8) rfl (by omega) (by omega) (by omega))) rfl rfl ?_)
    refine GG.call (fun w' => (R.call rfl rfl rfl)) rfl rfl (fun w' b' => (hck w' (q.trans (b'.mono q.size))).mono fun e W' h => ⟨h.1, b'.trans (h.2.mono b'.size)⟩) ?_
    refine GG.val (fun w' b' => R.neT rfl rfl rfl (by omega)) rfl rfl ?_
    refine GG.nilQ (fun W130 b129 => ?_)
    have zb129 := b129.size
    replace b50 := b50.trans (b129.mono b50.size)
    replace b15 := b15.trans (b129.mono b15.size)
    replace q := q.trans (b129.mono q.size)
    replace r53 := r53.up b129
    refine EE.thenN ?_
    refine CC.yes rfl ?_
    refine CC.seq ?_
    refine CC.region ?_
    refine LL.val (R.assign rfl rfl) rfl rfl rfl ?_
    refine LL.nilS ?_
    refine CC.ret ?_
    refine EE.thenR ?_
    refine EE.ret _ rfl rfl ?_
    exact ⟨rfl, q⟩
  rw [if_pos hset] at hck
  replace hcT := fun h => hcT ⟨hset, h⟩
  replace hcF := fun (h : b = false) => hcF fun k => by rw [h] at k; cases k.2
  clear hset
  refine X.fn Try.func14 rfl (n := 58) rfl rfl ?_
  refine CC.seq ?_
  refine CC.region ?_
  refine LL.val (R.assign rfl rfl) rfl rfl rfl ?_
  refine LL.nilS ?_
  refine CC.seq ?_
  refine CC.region ?_
  refine LL.val (R.move rfl rfl) rfl rfl rfl ?_
  (refine LL.call (R.call rfl rfl rfl) rfl rfl rfl (hof _ q) ?_; rintro e Wa18 ⟨⟨vo, rfl, oo⟩, ba15⟩; refine ⟨_, rfl, ?_⟩; obtain ⟨ao, co, rfl, hco⟩ := (oo.reads prEnc).form hN; obtain ⟨X1, hzX1, hpF, q1⟩ := exposeT (oo.reads prEnc); have zX1 := q1.size; clear oo)
  have zba15 := ba15.size
  replace q := q.trans (ba15.mono q.size)
  refine LL.val (R.move rfl rfl) rfl rfl rfl ?_
  refine LL.val (R.extract rfl rfl rfl) rfl rfl rfl ?_
  refine LL.val (R.extract rfl rfl rfl) rfl rfl rfl ?_
  refine LL.alloc ([Value.int IntKind.i64 0, Value.int IntKind.i64 0, Value.int IntKind.u64 0, Value.int IntKind.u64 0, Value.int IntKind.i64 0, Value.slice none 0 0]) rfl rfl rfl rfl rfl ?_
  intro Wa51 ga52 ega52 ra53 za54 ba50
  replace ba15 := ba15.trans (ba50.mono ba15.size)
  replace q1 := q1.trans (ba50.mono q1.size)
  replace q := q.trans (ba50.mono q.size)
  refine LL.storeN (vs := [Value.int IntKind.i64 ↑l0, Value.int IntKind.i64 ↑s1, Value.int IntKind.u64 ↑lo, Value.int IntKind.u64 ↑le, Value.int IntKind.i64 ↑wy, Value.slice ao N co]) rfl rfl rfl rfl ra53 (by exact Nat.le_of_ble_eq_true rfl) (ones_of rfl) rfl rfl ?_
  intro Wa64 ra65 ba63 za66
  have hlba63 := ra53.lt
  replace ra65 : RowL Wa64 _ 29 [Value.int IntKind.i64 ↑l0, Value.int IntKind.i64 ↑s1, Value.int IntKind.u64 ↑lo, Value.int IntKind.u64 ↑le, Value.int IntKind.i64 ↑wy, Value.slice ao N co] := ra65
  clear ra53
  replace ba50 := ba50.grown ba63 ba50.size (by rintro k ⟨⟩; omega)
  replace ba15 := ba15.grown ba63 ba15.size (by rintro k ⟨⟩; omega)
  replace q1 := q1.grown ba63 q1.size (by rintro k ⟨⟩; omega)
  replace q := q.grown ba63 q.size (by rintro k ⟨⟩; omega)
  have ra53 := ra65
  clear ra65
  refine LL.val (R.assign rfl rfl) rfl rfl rfl ?_
  refine LL.nilS ?_
  refine CC.seq ?_
  refine CC.seq ?_
  refine CC.region ?_
  refine LL.val (R.move rfl rfl) rfl rfl rfl ?_
  refine LL.val (R.neF rfl rfl rfl (by omega)) rfl rfl rfl ?_
  refine LL.nilS ?_
  refine CC.no rfl ?_
  refine CC.skip ?_
  refine EE.thenN ?_
  refine CC.seq ?_
  refine CC.seq ?_
  refine CC.grow (by kernel_rfl) (by kernel_rfl) ?_
  refine GG.val (fun w' b' => R.field rfl rfl (I.fld rfl)) rfl rfl ?_
  refine GG.val (fun w' b' => R.load rfl rfl (I.ld1 rfl (RowL.cell (ra53.up b') rfl))) rfl rfl ?_
  refine GG.val (fun w' b' => R.move rfl rfl) rfl rfl ?_
  (refine GG.val (fun w' b' => R.slice rfl rfl rfl rfl rfl (I.slFrom (lo := 8) rfl (by omega) (by omega) (by omega))) rfl rfl ?_)
  refine GG.call (fun w' => (R.call rfl rfl rfl)) rfl rfl (fun w' b' => (hck w' (q.trans (b'.mono q.size))).mono fun e W' h => ⟨h.1, b'.trans (h.2.mono b'.size)⟩) ?_
  refine GG.val (fun w' b' => R.neF rfl rfl rfl (by omega)) rfl rfl ?_
  refine GG.nilQ (fun Wa130 ba129 => ?_)
  have zba129 := ba129.size
  replace ba50 := ba50.trans (ba129.mono ba50.size)
  replace ba15 := ba15.trans (ba129.mono ba15.size)
  replace q1 := q1.trans (ba129.mono q1.size)
  replace q := q.trans (ba129.mono q.size)
  replace ra53 := ra53.up ba129
  refine EE.thenN ?_
  refine CC.no rfl ?_
  refine CC.skip ?_
  refine EE.thenN ?_
  refine CC.seq ?_
  refine CC.seq ?_
  refine CC.region ?_
  refine LL.val (R.assign rfl rfl) rfl rfl rfl ?_
  refine LL.nilS ?_
  refine CC.block ?_
  have yq := q.size
  have yq1 := q1.size
  refine CC.loop (α := Nat) (fun i => [(0, .slice (some ⟨bk, off, none⟩) 64 c), (3, .pointer (some ⟨ga52, 0, none⟩)), (5, .int .i64 (i : Int))]) (fun i W => i ≤ N ∧ Below w.heap.size w W ∧ Below X1.heap.size X1 W ∧ RowL W ga52 29 [.int .i64 (l0 : Int), .int .i64 (s1 : Int), .int .u64 (lo : Int), .int .u64 (le : Int), .int .i64 (wy : Int), .slice ao N co] ∧ ∀ j x, j < i → ps[j]? = some x → okPr l0 lo x) (fun i => N - i) 0 ⟨rfl, rfl, rfl, trivial⟩ ⟨Nat.zero_le _, q, q1, by assumption, fun j x h => absurd h (Nat.not_lt_zero _)⟩ ?_
  clear q q1 yq yq1
  rintro i W ⟨hi, q, q1, rn, hall⟩
  have yq := q.size
  have yq1 := q1.size
  show CC none Try.prog _ 58 [] (sl [(0, .slice (some ⟨bk, off, none⟩) 64 c), (3, .pointer (some ⟨ga52, 0, none⟩)), (5, .int .i64 (i : Int))]) _ W
  by_cases hlt : i < N
  case neg =>
    obtain rfl : N = i := by omega
    obtain rfl := hcT (hb2.2 fun x hx => by
      obtain ⟨j, hj⟩ := List.mem_iff_getElem?.1 hx
      exact hall j x (by have := (List.getElem?_eq_some_iff.1 hj).1; omega) hj)
    refine CC.seq ?_
    refine CC.seq ?_
    refine CC.region ?_
    refine LL.val (R.move rfl rfl) rfl rfl rfl ?_
    refine LL.val (R.field rfl rfl (I.fld rfl)) rfl rfl rfl ?_
    refine LL.val (R.load rfl rfl (I.ld1 rfl (RowL.cell rn rfl))) rfl rfl rfl ?_
    refine LL.val (R.len rfl rfl rfl rfl) rfl rfl rfl ?_
    refine LL.val (R.ltF rfl rfl rfl (by omega)) rfl rfl rfl ?_
    refine LL.nilS ?_
    refine CC.no rfl ?_
    refine CC.exit ?_
    refine EE.thenX ?_
    refine EE.thenX ?_
    refine EE.inX ?_
    refine EE.thenN ?_
    refine CC.seq ?_
    refine CC.region ?_
    refine LL.val (R.assign rfl rfl) rfl rfl rfl ?_
    refine LL.nilS ?_
    refine CC.ret ?_
    refine EE.ret _ rfl rfl ?_
    exact ⟨rfl, q⟩
  obtain ⟨⟨k1, p1⟩, hx⟩ : ∃ x, ps[i]? = some x := ⟨_, List.getElem?_eq_getElem (by omega)⟩
  obtain ⟨b1, o1, rfl, _, _⟩ := (hpF _ q1).get prEnc hx
  have m1 : CellsN W ⟨b1, o1 + i * 2, none⟩ 2 [.int .u64 (k1 : Int), .int .u64 (p1 : Int)] := (hpF W q1).elemN prEnc hx
  have hmem := List.mem_of_getElem? hx
  by_cases hp : okP l0 p1
  · have hrt := fun X => rrt_d l0 p1 X
    rw [decide_eq_true hp] at hrt
    by_cases hk : okK l0 lo k1
    · have hall2 : ∀ j x, j < i + 1 → ps[j]? = some x → okPr l0 lo x := fun j x hj hx2 => by
        by_cases e : j = i
        · subst e
          rw [hx] at hx2
          cases hx2
          exact ⟨hp, hk⟩
        · exact hall j x (by omega) hx2
      unfold okK at hk
      clear hall hb2 hp hmem
      refine CC.seq ?_
      refine CC.seq ?_
      refine CC.region ?_
      refine LL.val (R.move rfl rfl) rfl rfl rfl ?_
      refine LL.val (R.field rfl rfl (I.fld rfl)) rfl rfl rfl ?_
      refine LL.val (R.load rfl rfl (I.ld1 rfl (RowL.cell rn rfl))) rfl rfl rfl ?_
      refine LL.val (R.len rfl rfl rfl rfl) rfl rfl rfl ?_
      refine LL.val (R.ltT rfl rfl rfl (by omega)) rfl rfl rfl ?_
      refine LL.nilS ?_
      refine CC.yes rfl ?_
      refine CC.skip ?_
      refine EE.thenN ?_
      refine CC.seq ?_
      refine CC.block ?_
      refine CC.seq ?_
      refine CC.region ?_
      refine LL.val (R.field rfl rfl (I.fld rfl)) rfl rfl rfl ?_
      refine LL.val (R.load rfl rfl (I.ld1 rfl (RowL.cell rn rfl))) rfl rfl rfl ?_
      refine LL.val (R.move rfl rfl) rfl rfl rfl ?_
      refine LL.val (R.index rfl rfl rfl (I.ixS rfl (by omega))) rfl rfl rfl ?_
      refine LL.val (R.load rfl rfl (I.ldNc (by assumption) rfl rfl)) rfl rfl rfl ?_
      have lc1 := rn.lt
      refine LL.alloc ([Value.int IntKind.u64 0, Value.int IntKind.u64 0]) rfl rfl rfl rfl rfl ?_
      intro Wc3 gc4 egc4 rc5 zc6 bc2
      replace q := q.trans (bc2.mono q.size)
      replace q1 := q1.trans (bc2.mono q1.size)
      replace rn := rn.up bc2
      replace m1 := m1.up bc2
      refine LL.storeN (vs := [Value.int IntKind.u64 ↑k1, Value.int IntKind.u64 ↑p1]) rfl rfl rfl rfl rc5 (by exact Nat.le_of_ble_eq_true rfl) (ones_of rfl) rfl rfl ?_
      intro Wc8 rc9 bc7 zc10
      have hlbc7 := rc5.lt
      replace rc9 : RowL Wc8 _ 46 [Value.int IntKind.u64 ↑k1, Value.int IntKind.u64 ↑p1] := rc9
      clear rc5
      replace bc2 := bc2.grown bc7 bc2.size (by rintro k ⟨⟩; omega)
      replace q := q.grown bc7 q.size (by rintro k ⟨⟩; omega)
      replace q1 := q1.grown bc7 q1.size (by rintro k ⟨⟩; omega)
      replace rn := rn.gr bc7 (by have := rn.lt; omega)
      replace m1 := m1.gr bc7 (by have := m1.lt; omega)
      have rc5 := rc9
      clear rc9
      refine LL.nilS ?_
      refine CC.seq ?_
      refine CC.region ?_
      refine LL.val (R.field rfl rfl (I.fld rfl)) rfl rfl rfl ?_
      refine LL.val (R.load rfl rfl (I.ld1 rfl (RowL.cell rn rfl))) rfl rfl rfl ?_
      refine LL.val (R.field rfl rfl (I.fld rfl)) rfl rfl rfl ?_
      refine LL.val (R.load rfl rfl (I.ld1 rfl (RowL.cell rc5 rfl))) rfl rfl rfl ?_
      refine LL.call (R.call rfl rfl rfl) rfl rfl rfl (hrt _) ?_
      rintro e W' ⟨rfl, rfl⟩
      refine ⟨_, rfl, ?_⟩
      refine LL.val (R.not rfl rfl) rfl rfl rfl ?_
      refine LL.val (R.move rfl rfl) rfl rfl rfl ?_
      refine LL.val (R.field rfl rfl (I.fld rfl)) rfl rfl rfl ?_
      refine LL.val (R.load rfl rfl (I.ld1 rfl (RowL.cell rc5 rfl))) rfl rfl rfl ?_
      refine LL.val (R.field rfl rfl (I.fld rfl)) rfl rfl rfl ?_
      refine LL.val (R.load rfl rfl (I.ld1 rfl (RowL.cell rn rfl))) rfl rfl rfl ?_
      refine LL.val (R.ltF rfl rfl rfl (by omega)) rfl rfl rfl ?_
      refine LL.val (R.pick rfl rfl rfl) rfl rfl rfl ?_
      refine LL.val (R.move rfl rfl) rfl rfl rfl ?_
      refine LL.val (R.field rfl rfl (I.fld rfl)) rfl rfl rfl ?_
      refine LL.val (R.load rfl rfl (I.ld1 rfl (RowL.cell rn rfl))) rfl rfl rfl ?_
      refine LL.vsplit (fun h => R.gtT rfl rfl rfl h) (fun h => R.gtF rfl rfl rfl (Int.not_lt.1 h)) rfl rfl rfl (fun cc11 => ?_) (fun cc11 => ?_)
      refine LL.val (R.move rfl rfl) rfl rfl rfl ?_
      refine LL.val (R.field rfl rfl (I.fld rfl)) rfl rfl rfl ?_
      refine LL.val (R.load rfl rfl (I.ld1 rfl (RowL.cell rc5 rfl))) rfl rfl rfl ?_
      refine LL.val (R.field rfl rfl (I.fld rfl)) rfl rfl rfl ?_
      refine LL.val (R.load rfl rfl (I.ld1 rfl (RowL.cell rn rfl))) rfl rfl rfl ?_
      refine LL.val (R.eqF rfl rfl rfl (by omega)) rfl rfl rfl ?_
      refine LL.val (R.pick rfl rfl rfl) rfl rfl rfl ?_
      refine LL.val (R.pick rfl rfl rfl) rfl rfl rfl ?_
      refine LL.nilS ?_
      refine CC.no rfl ?_
      refine CC.skip ?_
      refine EE.inN ?_
      refine EE.thenN ?_
      refine CC.region ?_
      refine LL.val (R.move rfl rfl) rfl rfl rfl ?_
      refine LL.val (R.addNc rfl rfl rfl rfl (by omega)) rfl rfl rfl ?_
      refine LL.val (R.assign rfl rfl) rfl rfl rfl ?_
      refine LL.nil ?_
      exact EE.round (i + 1) ⟨rfl, rfl, rfl, trivial⟩ ⟨by show i + 1 ≤ N; omega, q, q1, by assumption, hall2⟩ (by show N - (i + 1) < N - i; omega)
      refine LL.val (R.move rfl rfl) rfl rfl rfl ?_
      refine LL.skip rfl rfl ?_
      refine LL.skip rfl rfl ?_
      refine LL.skip rfl rfl ?_
      refine LL.skip rfl rfl ?_
      refine LL.skip rfl rfl ?_
      refine LL.val (R.pick rfl rfl rfl) rfl rfl rfl ?_
      refine LL.val (R.pick rfl rfl rfl) rfl rfl rfl ?_
      refine LL.nilS ?_
      refine CC.no rfl ?_
      refine CC.skip ?_
      refine EE.inN ?_
      refine EE.thenN ?_
      refine CC.region ?_
      refine LL.val (R.move rfl rfl) rfl rfl rfl ?_
      refine LL.val (R.addNc rfl rfl rfl rfl (by omega)) rfl rfl rfl ?_
      refine LL.val (R.assign rfl rfl) rfl rfl rfl ?_
      refine LL.nil ?_
      exact EE.round (i + 1) ⟨rfl, rfl, rfl, trivial⟩ ⟨by show i + 1 ≤ N; omega, q, q1, by assumption, hall2⟩ (by show N - (i + 1) < N - i; omega)
    · obtain rfl := hcF (by cases b with | false => rfl | true => exact absurd (hb2.1 rfl _ hmem).2 hk)
      have hk2 : k1 < lo ∨ (0 < l0 ∧ k1 = lo) := by unfold okK at hk; omega
      clear hall hb2 hp hmem hk
      rcases hk2 with hk2 | hk2
      · refine CC.seq ?_
        refine CC.seq ?_
        refine CC.region ?_
        refine LL.val (R.move rfl rfl) rfl rfl rfl ?_
        refine LL.val (R.field rfl rfl (I.fld rfl)) rfl rfl rfl ?_
        refine LL.val (R.load rfl rfl (I.ld1 rfl (RowL.cell rn rfl))) rfl rfl rfl ?_
        refine LL.val (R.len rfl rfl rfl rfl) rfl rfl rfl ?_
        refine LL.val (R.ltT rfl rfl rfl (by omega)) rfl rfl rfl ?_
        refine LL.nilS ?_
        refine CC.yes rfl ?_
        refine CC.skip ?_
        refine EE.thenN ?_
        refine CC.seq ?_
        refine CC.block ?_
        refine CC.seq ?_
        refine CC.region ?_
        refine LL.val (R.field rfl rfl (I.fld rfl)) rfl rfl rfl ?_
        refine LL.val (R.load rfl rfl (I.ld1 rfl (RowL.cell rn rfl))) rfl rfl rfl ?_
        refine LL.val (R.move rfl rfl) rfl rfl rfl ?_
        refine LL.val (R.index rfl rfl rfl (I.ixS rfl (by omega))) rfl rfl rfl ?_
        refine LL.val (R.load rfl rfl (I.ldNc (by assumption) rfl rfl)) rfl rfl rfl ?_
        have ld1 := rn.lt
        refine LL.alloc ([Value.int IntKind.u64 0, Value.int IntKind.u64 0]) rfl rfl rfl rfl rfl ?_
        intro Wd3 gd4 egd4 rd5 zd6 bd2
        replace q := q.trans (bd2.mono q.size)
        replace q1 := q1.trans (bd2.mono q1.size)
        replace rn := rn.up bd2
        replace m1 := m1.up bd2
        refine LL.storeN (vs := [Value.int IntKind.u64 ↑k1, Value.int IntKind.u64 ↑p1]) rfl rfl rfl rfl rd5 (by exact Nat.le_of_ble_eq_true rfl) (ones_of rfl) rfl rfl ?_
        intro Wd8 rd9 bd7 zd10
        have hlbd7 := rd5.lt
        replace rd9 : RowL Wd8 _ 46 [Value.int IntKind.u64 ↑k1, Value.int IntKind.u64 ↑p1] := rd9
        clear rd5
        replace bd2 := bd2.grown bd7 bd2.size (by rintro k ⟨⟩; omega)
        replace q := q.grown bd7 q.size (by rintro k ⟨⟩; omega)
        replace q1 := q1.grown bd7 q1.size (by rintro k ⟨⟩; omega)
        replace rn := rn.gr bd7 (by have := rn.lt; omega)
        replace m1 := m1.gr bd7 (by have := m1.lt; omega)
        have rd5 := rd9
        clear rd9
        refine LL.nilS ?_
        refine CC.seq ?_
        refine CC.region ?_
        refine LL.val (R.field rfl rfl (I.fld rfl)) rfl rfl rfl ?_
        refine LL.val (R.load rfl rfl (I.ld1 rfl (RowL.cell rn rfl))) rfl rfl rfl ?_
        refine LL.val (R.field rfl rfl (I.fld rfl)) rfl rfl rfl ?_
        refine LL.val (R.load rfl rfl (I.ld1 rfl (RowL.cell rd5 rfl))) rfl rfl rfl ?_
        refine LL.call (R.call rfl rfl rfl) rfl rfl rfl (hrt _) ?_
        rintro e W' ⟨rfl, rfl⟩
        refine ⟨_, rfl, ?_⟩
        refine LL.val (R.not rfl rfl) rfl rfl rfl ?_
        refine LL.val (R.move rfl rfl) rfl rfl rfl ?_
        refine LL.val (R.field rfl rfl (I.fld rfl)) rfl rfl rfl ?_
        refine LL.val (R.load rfl rfl (I.ld1 rfl (RowL.cell rd5 rfl))) rfl rfl rfl ?_
        refine LL.val (R.field rfl rfl (I.fld rfl)) rfl rfl rfl ?_
        refine LL.val (R.load rfl rfl (I.ld1 rfl (RowL.cell rn rfl))) rfl rfl rfl ?_
        refine LL.val (R.ltT rfl rfl rfl (by omega)) rfl rfl rfl ?_
        refine LL.val (R.pick rfl rfl rfl) rfl rfl rfl ?_
        refine LL.val (R.move rfl rfl) rfl rfl rfl ?_
        refine LL.skip rfl rfl ?_
        refine LL.skip rfl rfl ?_
        refine LL.skip rfl rfl ?_
        refine LL.skip rfl rfl ?_
        refine LL.skip rfl rfl ?_
        refine LL.skip rfl rfl ?_
        refine LL.skip rfl rfl ?_
        refine LL.skip rfl rfl ?_
        refine LL.skip rfl rfl ?_
        refine LL.skip rfl rfl ?_
        refine LL.val (R.pick rfl rfl rfl) rfl rfl rfl ?_
        refine LL.nilS ?_
        refine CC.yes rfl ?_
        refine CC.seq ?_
        refine CC.region ?_
        refine LL.val (R.assign rfl rfl) rfl rfl rfl ?_
        refine LL.nilS ?_
        refine CC.ret ?_
        refine EE.inR ?_
        refine EE.thenR ?_
        refine EE.thenR ?_
        refine EE.inR ?_
        refine EE.thenR ?_
        refine EE.ret _ rfl rfl ?_
        exact ⟨rfl, q⟩
      · refine CC.seq ?_
        refine CC.seq ?_
        refine CC.region ?_
        refine LL.val (R.move rfl rfl) rfl rfl rfl ?_
        refine LL.val (R.field rfl rfl (I.fld rfl)) rfl rfl rfl ?_
        refine LL.val (R.load rfl rfl (I.ld1 rfl (RowL.cell rn rfl))) rfl rfl rfl ?_
        refine LL.val (R.len rfl rfl rfl rfl) rfl rfl rfl ?_
        refine LL.val (R.ltT rfl rfl rfl (by omega)) rfl rfl rfl ?_
        refine LL.nilS ?_
        refine CC.yes rfl ?_
        refine CC.skip ?_
        refine EE.thenN ?_
        refine CC.seq ?_
        refine CC.block ?_
        refine CC.seq ?_
        refine CC.region ?_
        refine LL.val (R.field rfl rfl (I.fld rfl)) rfl rfl rfl ?_
        refine LL.val (R.load rfl rfl (I.ld1 rfl (RowL.cell rn rfl))) rfl rfl rfl ?_
        refine LL.val (R.move rfl rfl) rfl rfl rfl ?_
        refine LL.val (R.index rfl rfl rfl (I.ixS rfl (by omega))) rfl rfl rfl ?_
        refine LL.val (R.load rfl rfl (I.ldNc (by assumption) rfl rfl)) rfl rfl rfl ?_
        have le1 := rn.lt
        refine LL.alloc ([Value.int IntKind.u64 0, Value.int IntKind.u64 0]) rfl rfl rfl rfl rfl ?_
        intro We3 ge4 ege4 re5 ze6 be2
        replace q := q.trans (be2.mono q.size)
        replace q1 := q1.trans (be2.mono q1.size)
        replace rn := rn.up be2
        replace m1 := m1.up be2
        refine LL.storeN (vs := [Value.int IntKind.u64 ↑k1, Value.int IntKind.u64 ↑p1]) rfl rfl rfl rfl re5 (by exact Nat.le_of_ble_eq_true rfl) (ones_of rfl) rfl rfl ?_
        intro We8 re9 be7 ze10
        have hlbe7 := re5.lt
        replace re9 : RowL We8 _ 46 [Value.int IntKind.u64 ↑k1, Value.int IntKind.u64 ↑p1] := re9
        clear re5
        replace be2 := be2.grown be7 be2.size (by rintro k ⟨⟩; omega)
        replace q := q.grown be7 q.size (by rintro k ⟨⟩; omega)
        replace q1 := q1.grown be7 q1.size (by rintro k ⟨⟩; omega)
        replace rn := rn.gr be7 (by have := rn.lt; omega)
        replace m1 := m1.gr be7 (by have := m1.lt; omega)
        have re5 := re9
        clear re9
        refine LL.nilS ?_
        refine CC.seq ?_
        refine CC.region ?_
        refine LL.val (R.field rfl rfl (I.fld rfl)) rfl rfl rfl ?_
        refine LL.val (R.load rfl rfl (I.ld1 rfl (RowL.cell rn rfl))) rfl rfl rfl ?_
        refine LL.val (R.field rfl rfl (I.fld rfl)) rfl rfl rfl ?_
        refine LL.val (R.load rfl rfl (I.ld1 rfl (RowL.cell re5 rfl))) rfl rfl rfl ?_
        refine LL.call (R.call rfl rfl rfl) rfl rfl rfl (hrt _) ?_
        rintro e W' ⟨rfl, rfl⟩
        refine ⟨_, rfl, ?_⟩
        refine LL.val (R.not rfl rfl) rfl rfl rfl ?_
        refine LL.val (R.move rfl rfl) rfl rfl rfl ?_
        refine LL.val (R.field rfl rfl (I.fld rfl)) rfl rfl rfl ?_
        refine LL.val (R.load rfl rfl (I.ld1 rfl (RowL.cell re5 rfl))) rfl rfl rfl ?_
        refine LL.val (R.field rfl rfl (I.fld rfl)) rfl rfl rfl ?_
        refine LL.val (R.load rfl rfl (I.ld1 rfl (RowL.cell rn rfl))) rfl rfl rfl ?_
        refine LL.val (R.ltF rfl rfl rfl (by omega)) rfl rfl rfl ?_
        refine LL.val (R.pick rfl rfl rfl) rfl rfl rfl ?_
        refine LL.val (R.move rfl rfl) rfl rfl rfl ?_
        refine LL.val (R.field rfl rfl (I.fld rfl)) rfl rfl rfl ?_
        refine LL.val (R.load rfl rfl (I.ld1 rfl (RowL.cell rn rfl))) rfl rfl rfl ?_
        refine LL.val (R.gtT rfl rfl rfl (by omega)) rfl rfl rfl ?_
        refine LL.val (R.move rfl rfl) rfl rfl rfl ?_
        refine LL.val (R.field rfl rfl (I.fld rfl)) rfl rfl rfl ?_
        refine LL.val (R.load rfl rfl (I.ld1 rfl (RowL.cell re5 rfl))) rfl rfl rfl ?_
        refine LL.val (R.field rfl rfl (I.fld rfl)) rfl rfl rfl ?_
        refine LL.val (R.load rfl rfl (I.ld1 rfl (RowL.cell rn rfl))) rfl rfl rfl ?_
        refine LL.val (R.eqT rfl rfl rfl (by omega)) rfl rfl rfl ?_
        refine LL.val (R.pick rfl rfl rfl) rfl rfl rfl ?_
        refine LL.val (R.pick rfl rfl rfl) rfl rfl rfl ?_
        refine LL.nilS ?_
        refine CC.yes rfl ?_
        refine CC.seq ?_
        refine CC.region ?_
        refine LL.val (R.assign rfl rfl) rfl rfl rfl ?_
        refine LL.nilS ?_
        refine CC.ret ?_
        refine EE.inR ?_
        refine EE.thenR ?_
        refine EE.thenR ?_
        refine EE.inR ?_
        refine EE.thenR ?_
        refine EE.ret _ rfl rfl ?_
        exact ⟨rfl, q⟩
  · have hrt := fun X => rrt_d l0 p1 X
    rw [decide_eq_false hp] at hrt
    obtain rfl := hcF (by cases b with | false => rfl | true => exact absurd (hb2.1 rfl _ hmem).1 hp)
    clear hall hb2 hp hmem
    refine CC.seq ?_
    refine CC.seq ?_
    refine CC.region ?_
    refine LL.val (R.move rfl rfl) rfl rfl rfl ?_
    refine LL.val (R.field rfl rfl (I.fld rfl)) rfl rfl rfl ?_
    refine LL.val (R.load rfl rfl (I.ld1 rfl (RowL.cell rn rfl))) rfl rfl rfl ?_
    refine LL.val (R.len rfl rfl rfl rfl) rfl rfl rfl ?_
    refine LL.val (R.ltT rfl rfl rfl (by omega)) rfl rfl rfl ?_
    refine LL.nilS ?_
    refine CC.yes rfl ?_
    refine CC.skip ?_
    refine EE.thenN ?_
    refine CC.seq ?_
    refine CC.block ?_
    refine CC.seq ?_
    refine CC.region ?_
    refine LL.val (R.field rfl rfl (I.fld rfl)) rfl rfl rfl ?_
    refine LL.val (R.load rfl rfl (I.ld1 rfl (RowL.cell rn rfl))) rfl rfl rfl ?_
    refine LL.val (R.move rfl rfl) rfl rfl rfl ?_
    refine LL.val (R.index rfl rfl rfl (I.ixS rfl (by omega))) rfl rfl rfl ?_
    refine LL.val (R.load rfl rfl (I.ldNc (by assumption) rfl rfl)) rfl rfl rfl ?_
    have lf1 := rn.lt
    refine LL.alloc ([Value.int IntKind.u64 0, Value.int IntKind.u64 0]) rfl rfl rfl rfl rfl ?_
    intro Wf3 gf4 egf4 rf5 zf6 bf2
    replace q := q.trans (bf2.mono q.size)
    replace q1 := q1.trans (bf2.mono q1.size)
    replace rn := rn.up bf2
    replace m1 := m1.up bf2
    refine LL.storeN (vs := [Value.int IntKind.u64 ↑k1, Value.int IntKind.u64 ↑p1]) rfl rfl rfl rfl rf5 (by exact Nat.le_of_ble_eq_true rfl) (ones_of rfl) rfl rfl ?_
    intro Wf8 rf9 bf7 zf10
    have hlbf7 := rf5.lt
    replace rf9 : RowL Wf8 _ 46 [Value.int IntKind.u64 ↑k1, Value.int IntKind.u64 ↑p1] := rf9
    clear rf5
    replace bf2 := bf2.grown bf7 bf2.size (by rintro k ⟨⟩; omega)
    replace q := q.grown bf7 q.size (by rintro k ⟨⟩; omega)
    replace q1 := q1.grown bf7 q1.size (by rintro k ⟨⟩; omega)
    replace rn := rn.gr bf7 (by have := rn.lt; omega)
    replace m1 := m1.gr bf7 (by have := m1.lt; omega)
    have rf5 := rf9
    clear rf9
    refine LL.nilS ?_
    refine CC.seq ?_
    refine CC.region ?_
    refine LL.val (R.field rfl rfl (I.fld rfl)) rfl rfl rfl ?_
    refine LL.val (R.load rfl rfl (I.ld1 rfl (RowL.cell rn rfl))) rfl rfl rfl ?_
    refine LL.val (R.field rfl rfl (I.fld rfl)) rfl rfl rfl ?_
    refine LL.val (R.load rfl rfl (I.ld1 rfl (RowL.cell rf5 rfl))) rfl rfl rfl ?_
    refine LL.call (R.call rfl rfl rfl) rfl rfl rfl (hrt _) ?_
    rintro e W' ⟨rfl, rfl⟩
    refine ⟨_, rfl, ?_⟩
    refine LL.val (R.not rfl rfl) rfl rfl rfl ?_
    refine LL.val (R.move rfl rfl) rfl rfl rfl ?_
    refine LL.skip rfl rfl ?_
    refine LL.skip rfl rfl ?_
    refine LL.skip rfl rfl ?_
    refine LL.skip rfl rfl ?_
    refine LL.skip rfl rfl ?_
    refine LL.val (R.pick rfl rfl rfl) rfl rfl rfl ?_
    refine LL.val (R.move rfl rfl) rfl rfl rfl ?_
    refine LL.skip rfl rfl ?_
    refine LL.skip rfl rfl ?_
    refine LL.skip rfl rfl ?_
    refine LL.skip rfl rfl ?_
    refine LL.skip rfl rfl ?_
    refine LL.skip rfl rfl ?_
    refine LL.skip rfl rfl ?_
    refine LL.skip rfl rfl ?_
    refine LL.skip rfl rfl ?_
    refine LL.skip rfl rfl ?_
    refine LL.val (R.pick rfl rfl rfl) rfl rfl rfl ?_
    refine LL.nilS ?_
    refine CC.yes rfl ?_
    refine CC.seq ?_
    refine CC.region ?_
    refine LL.val (R.assign rfl rfl) rfl rfl rfl ?_
    refine LL.nilS ?_
    refine CC.ret ?_
    refine EE.inR ?_
    refine EE.thenR ?_
    refine EE.thenR ?_
    refine EE.inR ?_
    refine EE.thenR ?_
    refine EE.ret _ rfl rfl ?_
    exact ⟨rfl, q⟩
end Go.Proofs.Ytfplilpefhhpnaa
/- node: Check of the document; Each; the document's Child (written by gennd22.py). -/
namespace Go.Proofs.Ytfplilpefhhpnaa
set_option linter.unusedVariables false
set_option linter.unusedSimpArgs false
open Go.RowKit Go.Shelf
set_option maxRecDepth 100000
set_option maxHeartbeats 8000000
theorem rCheck_any (n : Nat) (v : Value) (ws : List Nat) (w : World) (hv : ReadsT uE 1 w v ws) (hn : ws.length = n) (hb : ∀ x ∈ ws, x < 18446744073709551616) : Calls Try.prog 14 #[v] w fun e w' => e = .returned (.int .i64 (chkN ws : Int)) ∧ Below w.heap.size w w' := by
  unfold chkN
  by_cases hP : nodeP ws
  case neg =>
    rw [if_neg hP]
    exact rCheck_no n v ws w hv hn hb hP
  rw [if_pos hP]
  classical
  have h1 : ndSet ws (gw ws 0) (gw ws 2) (gw ws 3) ↔ setP (gw ws 3) (ws.drop 8) ∧ decide (∀ x ∈ readF (gw ws 3) (ws.drop 8), okPr (gw ws 0 % 256) (gw ws 2) x) = true := by
    rw [decide_eq_true_eq]
    rfl
  refine rCheck_row n v ws w hv hn hb hP (decide (∀ x ∈ readF (gw ws 3) (ws.drop 8), okPr (gw ws 0 % 256) (gw ws 2) x)) decide_eq_true_iff _ (fun h => ?_) (fun h => ?_)
  · rw [if_pos (h1.2 h)]
  · rw [if_neg fun k => h (h1.1 k)]
end Go.Proofs.Ytfplilpefhhpnaa
/- node: the document's Words (written by gennd24.py). -/
namespace Go.Proofs.Ytfplilpefhhpnaa
set_option linter.unusedVariables false
set_option linter.unusedSimpArgs false
open Go.RowKit Go.Shelf
set_option maxRecDepth 100000
set_option maxHeartbeats 8000000
theorem rwords_any (l : Nat) (s : Int) (su lo le : Nat) (wy : Int) (wu : Nat) (ps : List Pr) (pv : Value) (w : World) (hv : ReadsT prE 2 w pv ps) (hl : l ≤ 12) (hn : ps.length ≤ 28) (hsu : IntKind.u64.wrap s = (su : Int)) (hwu : IntKind.u64.wrap wy = (wu : Int)) : Calls Try.prog 38 #[nodeV (l : Int) s lo le wy pv] w fun e w' => ∃ g, e = .returned (.slice (some ⟨g, 0, none⟩) 64 64) ∧ RowL w' g 25 (ints .u64 (layW (layH (7522529147838689024 + l) su lo le wu) ps)) ∧ w.heap.size ≤ g ∧ Below w.heap.size w w' := by
  have q := Below.refl w.heap.size w
  obtain ⟨N, hN⟩ : ∃ N, ps.length = N := ⟨_, rfl⟩
  obtain ⟨a, c, rfl, hc⟩ := hv.form hN
  have hF : ∀ W, Below w.heap.size w W → ReadsT prE 2 W (.slice a N c) ps := fun W b => hv.up b
  rw [hN] at hn
  clear hv
  have hwl : IntKind.u64.wrap (l : Int) = (l : Int) := by
    rw [IntKind.wrap_u64]
    omega
  refine X.fn Try.func38 rfl (n := 60) rfl rfl ?_
  refine CC.seq ?_
  refine CC.region ?_
  refine LL.box [Value.int IntKind.i64 ↑l, Value.int IntKind.i64 s, Value.int IntKind.u64 ↑lo, Value.int IntKind.u64 ↑le, Value.int IntKind.i64 wy, Value.slice a N c] rfl rfl rfl rfl rfl ?_
  intro W9 g10 eg10 r11 z12 b8
  replace q := q.trans (b8.mono q.size)
  refine LL.val (R.assign rfl rfl) rfl rfl rfl ?_
  refine LL.nilS ?_
  refine CC.seq ?_
  refine CC.region ?_
  have l25 := r11.lt
  (refine LL.make (l := 64) (m := 64) El64 rfl rfl rfl (by omega) (by omega) (by omega) rfl rfl ?_; intro W24 g2 eg2 r2 zz2 b21)
  have zb21 := b21.size
  replace r11 := r11.up b21
  replace b8 := b8.trans (b21.mono b8.size)
  replace q := q.trans (b21.mono q.size)
  refine LL.val (R.assign rfl rfl) rfl rfl rfl ?_
  refine LL.nilS ?_
  refine CC.seq ?_
  refine CC.freeZ (fun W_ j => j < W_.heap.size ∧ (j ≠ g2)) (by kernel_rfl) (by kernel_rfl) (fun W39 b38 z40 => ?_)
  replace r2 := r2.up b38
  replace b21 := b21.trans (b38.mono b21.size)
  replace r11 := r11.up b38
  replace b8 := b8.trans (b38.mono b8.size)
  replace q := q.trans (b38.mono q.size)
  have hok : Kept (fun j => j < W39.heap.size ∧ (j ≠ g2)) W39 W39 := Kept.refl _ _
  have fzr11 := fzRow (K := fun j => j < W39.heap.size ∧ (j ≠ g2)) r11 ⟨r11.lt, (by first | trivial | omega)⟩
  refine AA.pure 0 rfl hok (by kernel_rfl) (fun w' b' => R.move rfl rfl) rfl rfl ?_
  refine AA.pure 1 rfl hok (by kernel_rfl) (fun w' b' => R.move rfl rfl) rfl rfl ?_
  refine AA.pure 2 rfl hok (by kernel_rfl) (fun w' b' => R.move rfl rfl) rfl rfl ?_
  refine AA.pure 3 rfl hok (by kernel_rfl) (fun w' b' => R.move rfl rfl) rfl rfl ?_
  refine AA.pure 4 rfl hok (by kernel_rfl) (fun w' b' => R.move rfl rfl) rfl rfl ?_
  refine AA.pure 5 rfl hok (by kernel_rfl) (fun w' b' => R.field rfl rfl (I.fld rfl)) rfl rfl ?_
  refine AA.pure 6 rfl hok (by kernel_rfl) (fun w' b' => R.load rfl rfl (I.ld1 rfl (RowL.cell (fzr11 w' b') rfl))) rfl rfl ?_
  refine AA.pure 7 rfl hok (by kernel_rfl) (fun w' b' => R.convI rfl rfl rfl rfl hwl) rfl rfl ?_
  refine AA.pure 8 rfl hok (by kernel_rfl) (fun w' b' => R.addU (a := 7522529147838689024) (b := l) (z := 7522529147838689024 + l) rfl rfl rfl (by omega)) rfl rfl ?_
  refine AA.pure 9 rfl hok (by kernel_rfl) (fun w' b' => R.field rfl rfl (I.fld rfl)) rfl rfl ?_
  refine AA.pure 10 rfl hok (by kernel_rfl) (fun w' b' => R.load rfl rfl (I.ld1 rfl (RowL.cell (fzr11 w' b') rfl))) rfl rfl ?_
  refine AA.pure 11 rfl hok (by kernel_rfl) (fun w' b' => R.convI rfl rfl rfl rfl hsu) rfl rfl ?_
  refine AA.pure 12 rfl hok (by kernel_rfl) (fun w' b' => R.field rfl rfl (I.fld rfl)) rfl rfl ?_
  refine AA.pure 13 rfl hok (by kernel_rfl) (fun w' b' => R.load rfl rfl (I.ld1 rfl (RowL.cell (fzr11 w' b') rfl))) rfl rfl ?_
  refine AA.pure 14 rfl hok (by kernel_rfl) (fun w' b' => R.field rfl rfl (I.fld rfl)) rfl rfl ?_
  refine AA.pure 15 rfl hok (by kernel_rfl) (fun w' b' => R.load rfl rfl (I.ld1 rfl (RowL.cell (fzr11 w' b') rfl))) rfl rfl ?_
  refine AA.pure 16 rfl hok (by kernel_rfl) (fun w' b' => R.field rfl rfl (I.fld rfl)) rfl rfl ?_
  refine AA.pure 17 rfl hok (by kernel_rfl) (fun w' b' => R.load rfl rfl (I.ld1 rfl (RowL.cell (fzr11 w' b') rfl))) rfl rfl ?_
  refine AA.pure 18 rfl hok (by kernel_rfl) (fun w' b' => R.convI rfl rfl rfl rfl hwu) rfl rfl ?_
  refine AA.pure 19 rfl hok (by kernel_rfl) (fun w' b' => R.index rfl rfl rfl (I.ixS1c rfl rfl (by omega))) rfl rfl ?_
  refine AA.one 20 (by kernel_rfl) ?_
  refine ZR.store rfl rfl rfl rfl rfl r2 (by exact Nat.le_of_ble_eq_true rfl) rfl rfl rfl rfl ?_
  intro W51 r52 b50 z53
  have hlb50 := r2.lt
  replace r52 : RowL W51 _ 25 [Value.int IntKind.u64 ↑(7522529147838689024 + l), Value.int IntKind.u64 0, Value.int IntKind.u64 0, Value.int IntKind.u64 0, Value.int IntKind.u64 0, Value.int IntKind.u64 0, Value.int IntKind.u64 0, Value.int IntKind.u64 0, Value.int IntKind.u64 0, Value.int IntKind.u64 0, Value.int IntKind.u64 0, Value.int IntKind.u64 0, Value.int IntKind.u64 0, Value.int IntKind.u64 0, Value.int IntKind.u64 0, Value.int IntKind.u64 0, Value.int IntKind.u64 0, Value.int IntKind.u64 0, Value.int IntKind.u64 0, Value.int IntKind.u64 0, Value.int IntKind.u64 0, Value.int IntKind.u64 0, Value.int IntKind.u64 0, Value.int IntKind.u64 0, Value.int IntKind.u64 0, Value.int IntKind.u64 0, Value.int IntKind.u64 0, Value.int IntKind.u64 0, Value.int IntKind.u64 0, Value.int IntKind.u64 0, Value.int IntKind.u64 0, Value.int IntKind.u64 0, Value.int IntKind.u64 0, Value.int IntKind.u64 0, Value.int IntKind.u64 0, Value.int IntKind.u64 0, Value.int IntKind.u64 0, Value.int IntKind.u64 0, Value.int IntKind.u64 0, Value.int IntKind.u64 0, Value.int IntKind.u64 0, Value.int IntKind.u64 0, Value.int IntKind.u64 0, Value.int IntKind.u64 0, Value.int IntKind.u64 0, Value.int IntKind.u64 0, Value.int IntKind.u64 0, Value.int IntKind.u64 0, Value.int IntKind.u64 0, Value.int IntKind.u64 0, Value.int IntKind.u64 0, Value.int IntKind.u64 0, Value.int IntKind.u64 0, Value.int IntKind.u64 0, Value.int IntKind.u64 0, Value.int IntKind.u64 0, Value.int IntKind.u64 0, Value.int IntKind.u64 0, Value.int IntKind.u64 0, Value.int IntKind.u64 0, Value.int IntKind.u64 0, Value.int IntKind.u64 0, Value.int IntKind.u64 0, Value.int IntKind.u64 0] := r52
  clear r2
  replace b21 := b21.grown b50 b21.size (by rintro k ⟨⟩; omega)
  replace r11 := r11.gr b50 (by have := r11.lt; omega)
  replace b8 := b8.grown b50 b8.size (by rintro k ⟨⟩; omega)
  replace q := q.grown b50 q.size (by rintro k ⟨⟩; omega)
  replace hok := hok.trans (grown_kept b50 (fun j h => by have := h.1; have := hok.size; omega) (fun j h e => by cases e; have h2 := h.1; have h3 := h.2; omega))
  have r2 := r52
  clear r52
  refine ⟨hok, ?_⟩
  refine AA.pure 21 rfl hok (by kernel_rfl) (fun w' b' => R.index rfl rfl rfl (I.ixS1c rfl rfl (by omega))) rfl rfl ?_
  refine AA.one 22 (by kernel_rfl) ?_
  refine ZR.store rfl rfl rfl rfl rfl r2 (by exact Nat.le_of_ble_eq_true rfl) rfl rfl rfl rfl ?_
  intro W64 r65 b63 z66
  have hlb63 := r2.lt
  replace r65 : RowL W64 _ 25 [Value.int IntKind.u64 ↑(7522529147838689024 + l), Value.int IntKind.u64 ↑su, Value.int IntKind.u64 0, Value.int IntKind.u64 0, Value.int IntKind.u64 0, Value.int IntKind.u64 0, Value.int IntKind.u64 0, Value.int IntKind.u64 0, Value.int IntKind.u64 0, Value.int IntKind.u64 0, Value.int IntKind.u64 0, Value.int IntKind.u64 0, Value.int IntKind.u64 0, Value.int IntKind.u64 0, Value.int IntKind.u64 0, Value.int IntKind.u64 0, Value.int IntKind.u64 0, Value.int IntKind.u64 0, Value.int IntKind.u64 0, Value.int IntKind.u64 0, Value.int IntKind.u64 0, Value.int IntKind.u64 0, Value.int IntKind.u64 0, Value.int IntKind.u64 0, Value.int IntKind.u64 0, Value.int IntKind.u64 0, Value.int IntKind.u64 0, Value.int IntKind.u64 0, Value.int IntKind.u64 0, Value.int IntKind.u64 0, Value.int IntKind.u64 0, Value.int IntKind.u64 0, Value.int IntKind.u64 0, Value.int IntKind.u64 0, Value.int IntKind.u64 0, Value.int IntKind.u64 0, Value.int IntKind.u64 0, Value.int IntKind.u64 0, Value.int IntKind.u64 0, Value.int IntKind.u64 0, Value.int IntKind.u64 0, Value.int IntKind.u64 0, Value.int IntKind.u64 0, Value.int IntKind.u64 0, Value.int IntKind.u64 0, Value.int IntKind.u64 0, Value.int IntKind.u64 0, Value.int IntKind.u64 0, Value.int IntKind.u64 0, Value.int IntKind.u64 0, Value.int IntKind.u64 0, Value.int IntKind.u64 0, Value.int IntKind.u64 0, Value.int IntKind.u64 0, Value.int IntKind.u64 0, Value.int IntKind.u64 0, Value.int IntKind.u64 0, Value.int IntKind.u64 0, Value.int IntKind.u64 0, Value.int IntKind.u64 0, Value.int IntKind.u64 0, Value.int IntKind.u64 0, Value.int IntKind.u64 0, Value.int IntKind.u64 0] := r65
  clear r2
  replace b21 := b21.grown b63 b21.size (by rintro k ⟨⟩; omega)
  replace r11 := r11.gr b63 (by have := r11.lt; omega)
  replace b8 := b8.grown b63 b8.size (by rintro k ⟨⟩; omega)
  replace q := q.grown b63 q.size (by rintro k ⟨⟩; omega)
  replace hok := hok.trans (grown_kept b63 (fun j h => by have := h.1; have := hok.size; omega) (fun j h e => by cases e; have h2 := h.1; have h3 := h.2; omega))
  have r2 := r65
  clear r65
  refine ⟨hok, ?_⟩
  refine AA.pure 23 rfl hok (by kernel_rfl) (fun w' b' => R.index rfl rfl rfl (I.ixS1c rfl rfl (by omega))) rfl rfl ?_
  refine AA.one 24 (by kernel_rfl) ?_
  refine ZR.store rfl rfl rfl rfl rfl r2 (by exact Nat.le_of_ble_eq_true rfl) rfl rfl rfl rfl ?_
  intro W77 r78 b76 z79
  have hlb76 := r2.lt
  replace r78 : RowL W77 _ 25 [Value.int IntKind.u64 ↑(7522529147838689024 + l), Value.int IntKind.u64 ↑su, Value.int IntKind.u64 ↑lo, Value.int IntKind.u64 0, Value.int IntKind.u64 0, Value.int IntKind.u64 0, Value.int IntKind.u64 0, Value.int IntKind.u64 0, Value.int IntKind.u64 0, Value.int IntKind.u64 0, Value.int IntKind.u64 0, Value.int IntKind.u64 0, Value.int IntKind.u64 0, Value.int IntKind.u64 0, Value.int IntKind.u64 0, Value.int IntKind.u64 0, Value.int IntKind.u64 0, Value.int IntKind.u64 0, Value.int IntKind.u64 0, Value.int IntKind.u64 0, Value.int IntKind.u64 0, Value.int IntKind.u64 0, Value.int IntKind.u64 0, Value.int IntKind.u64 0, Value.int IntKind.u64 0, Value.int IntKind.u64 0, Value.int IntKind.u64 0, Value.int IntKind.u64 0, Value.int IntKind.u64 0, Value.int IntKind.u64 0, Value.int IntKind.u64 0, Value.int IntKind.u64 0, Value.int IntKind.u64 0, Value.int IntKind.u64 0, Value.int IntKind.u64 0, Value.int IntKind.u64 0, Value.int IntKind.u64 0, Value.int IntKind.u64 0, Value.int IntKind.u64 0, Value.int IntKind.u64 0, Value.int IntKind.u64 0, Value.int IntKind.u64 0, Value.int IntKind.u64 0, Value.int IntKind.u64 0, Value.int IntKind.u64 0, Value.int IntKind.u64 0, Value.int IntKind.u64 0, Value.int IntKind.u64 0, Value.int IntKind.u64 0, Value.int IntKind.u64 0, Value.int IntKind.u64 0, Value.int IntKind.u64 0, Value.int IntKind.u64 0, Value.int IntKind.u64 0, Value.int IntKind.u64 0, Value.int IntKind.u64 0, Value.int IntKind.u64 0, Value.int IntKind.u64 0, Value.int IntKind.u64 0, Value.int IntKind.u64 0, Value.int IntKind.u64 0, Value.int IntKind.u64 0, Value.int IntKind.u64 0, Value.int IntKind.u64 0] := r78
  clear r2
  replace b21 := b21.grown b76 b21.size (by rintro k ⟨⟩; omega)
  replace r11 := r11.gr b76 (by have := r11.lt; omega)
  replace b8 := b8.grown b76 b8.size (by rintro k ⟨⟩; omega)
  replace q := q.grown b76 q.size (by rintro k ⟨⟩; omega)
  replace hok := hok.trans (grown_kept b76 (fun j h => by have := h.1; have := hok.size; omega) (fun j h e => by cases e; have h2 := h.1; have h3 := h.2; omega))
  have r2 := r78
  clear r78
  refine ⟨hok, ?_⟩
  refine AA.pure 25 rfl hok (by kernel_rfl) (fun w' b' => R.index rfl rfl rfl (I.ixS1c rfl rfl (by omega))) rfl rfl ?_
  refine AA.one 26 (by kernel_rfl) ?_
  refine ZR.store rfl rfl rfl rfl rfl r2 (by exact Nat.le_of_ble_eq_true rfl) rfl rfl rfl rfl ?_
  intro W90 r91 b89 z92
  have hlb89 := r2.lt
  replace r91 : RowL W90 _ 25 [Value.int IntKind.u64 ↑(7522529147838689024 + l), Value.int IntKind.u64 ↑su, Value.int IntKind.u64 ↑lo, Value.int IntKind.u64 ↑le, Value.int IntKind.u64 0, Value.int IntKind.u64 0, Value.int IntKind.u64 0, Value.int IntKind.u64 0, Value.int IntKind.u64 0, Value.int IntKind.u64 0, Value.int IntKind.u64 0, Value.int IntKind.u64 0, Value.int IntKind.u64 0, Value.int IntKind.u64 0, Value.int IntKind.u64 0, Value.int IntKind.u64 0, Value.int IntKind.u64 0, Value.int IntKind.u64 0, Value.int IntKind.u64 0, Value.int IntKind.u64 0, Value.int IntKind.u64 0, Value.int IntKind.u64 0, Value.int IntKind.u64 0, Value.int IntKind.u64 0, Value.int IntKind.u64 0, Value.int IntKind.u64 0, Value.int IntKind.u64 0, Value.int IntKind.u64 0, Value.int IntKind.u64 0, Value.int IntKind.u64 0, Value.int IntKind.u64 0, Value.int IntKind.u64 0, Value.int IntKind.u64 0, Value.int IntKind.u64 0, Value.int IntKind.u64 0, Value.int IntKind.u64 0, Value.int IntKind.u64 0, Value.int IntKind.u64 0, Value.int IntKind.u64 0, Value.int IntKind.u64 0, Value.int IntKind.u64 0, Value.int IntKind.u64 0, Value.int IntKind.u64 0, Value.int IntKind.u64 0, Value.int IntKind.u64 0, Value.int IntKind.u64 0, Value.int IntKind.u64 0, Value.int IntKind.u64 0, Value.int IntKind.u64 0, Value.int IntKind.u64 0, Value.int IntKind.u64 0, Value.int IntKind.u64 0, Value.int IntKind.u64 0, Value.int IntKind.u64 0, Value.int IntKind.u64 0, Value.int IntKind.u64 0, Value.int IntKind.u64 0, Value.int IntKind.u64 0, Value.int IntKind.u64 0, Value.int IntKind.u64 0, Value.int IntKind.u64 0, Value.int IntKind.u64 0, Value.int IntKind.u64 0, Value.int IntKind.u64 0] := r91
  clear r2
  replace b21 := b21.grown b89 b21.size (by rintro k ⟨⟩; omega)
  replace r11 := r11.gr b89 (by have := r11.lt; omega)
  replace b8 := b8.grown b89 b8.size (by rintro k ⟨⟩; omega)
  replace q := q.grown b89 q.size (by rintro k ⟨⟩; omega)
  replace hok := hok.trans (grown_kept b89 (fun j h => by have := h.1; have := hok.size; omega) (fun j h e => by cases e; have h2 := h.1; have h3 := h.2; omega))
  have r2 := r91
  clear r91
  refine ⟨hok, ?_⟩
  refine AA.pure 27 rfl hok (by kernel_rfl) (fun w' b' => R.index rfl rfl rfl (I.ixS1c rfl rfl (by omega))) rfl rfl ?_
  refine AA.one 28 (by kernel_rfl) ?_
  refine ZR.store rfl rfl rfl rfl rfl r2 (by exact Nat.le_of_ble_eq_true rfl) rfl rfl rfl rfl ?_
  intro W103 r104 b102 z105
  have hlb102 := r2.lt
  replace r104 : RowL W103 _ 25 [Value.int IntKind.u64 ↑(7522529147838689024 + l), Value.int IntKind.u64 ↑su, Value.int IntKind.u64 ↑lo, Value.int IntKind.u64 ↑le, Value.int IntKind.u64 ↑wu, Value.int IntKind.u64 0, Value.int IntKind.u64 0, Value.int IntKind.u64 0, Value.int IntKind.u64 0, Value.int IntKind.u64 0, Value.int IntKind.u64 0, Value.int IntKind.u64 0, Value.int IntKind.u64 0, Value.int IntKind.u64 0, Value.int IntKind.u64 0, Value.int IntKind.u64 0, Value.int IntKind.u64 0, Value.int IntKind.u64 0, Value.int IntKind.u64 0, Value.int IntKind.u64 0, Value.int IntKind.u64 0, Value.int IntKind.u64 0, Value.int IntKind.u64 0, Value.int IntKind.u64 0, Value.int IntKind.u64 0, Value.int IntKind.u64 0, Value.int IntKind.u64 0, Value.int IntKind.u64 0, Value.int IntKind.u64 0, Value.int IntKind.u64 0, Value.int IntKind.u64 0, Value.int IntKind.u64 0, Value.int IntKind.u64 0, Value.int IntKind.u64 0, Value.int IntKind.u64 0, Value.int IntKind.u64 0, Value.int IntKind.u64 0, Value.int IntKind.u64 0, Value.int IntKind.u64 0, Value.int IntKind.u64 0, Value.int IntKind.u64 0, Value.int IntKind.u64 0, Value.int IntKind.u64 0, Value.int IntKind.u64 0, Value.int IntKind.u64 0, Value.int IntKind.u64 0, Value.int IntKind.u64 0, Value.int IntKind.u64 0, Value.int IntKind.u64 0, Value.int IntKind.u64 0, Value.int IntKind.u64 0, Value.int IntKind.u64 0, Value.int IntKind.u64 0, Value.int IntKind.u64 0, Value.int IntKind.u64 0, Value.int IntKind.u64 0, Value.int IntKind.u64 0, Value.int IntKind.u64 0, Value.int IntKind.u64 0, Value.int IntKind.u64 0, Value.int IntKind.u64 0, Value.int IntKind.u64 0, Value.int IntKind.u64 0, Value.int IntKind.u64 0] := r104
  clear r2
  replace b21 := b21.grown b102 b21.size (by rintro k ⟨⟩; omega)
  replace r11 := r11.gr b102 (by have := r11.lt; omega)
  replace b8 := b8.grown b102 b8.size (by rintro k ⟨⟩; omega)
  replace q := q.grown b102 q.size (by rintro k ⟨⟩; omega)
  replace hok := hok.trans (grown_kept b102 (fun j h => by have := h.1; have := hok.size; omega) (fun j h e => by cases e; have h2 := h.1; have h3 := h.2; omega))
  have r2 := r104
  clear r104
  refine ⟨hok, ?_⟩
  refine AA.done rfl ?_
  clear fzr11 hok
  refine EE.thenN ?_
  refine CC.seq ?_
  refine CC.seq ?_
  refine CC.region ?_
  refine LL.val (R.assign rfl rfl) rfl rfl rfl ?_
  refine LL.nilS ?_
  refine CC.block ?_
  have r3 : RowL W103 g2 25 (ints .u64 (layW (layH (7522529147838689024 + l) su lo le wu) (ps.take 0))) := r2
  have lg2 := r2.lt
  have rn : RowL W103 g10 29 [.int .i64 (l : Int), .int .i64 s, .int .u64 (lo : Int), .int .u64 (le : Int), .int .i64 wy, .slice a N c] := r11
  clear r2 r11
  refine CC.loop (α := Nat) (fun i => [(1, .pointer (some ⟨g10, 0, none⟩)), (3, .slice (some ⟨g2, 0, none⟩) 64 64), (4, .int .i64 (i : Int))]) (fun i W => i ≤ N ∧ Below w.heap.size w W ∧ RowL W g2 25 (ints .u64 (layW (layH (7522529147838689024 + l) su lo le wu) (ps.take i))) ∧ RowL W g10 29 [.int .i64 (l : Int), .int .i64 s, .int .u64 (lo : Int), .int .u64 (le : Int), .int .i64 wy, .slice a N c]) (fun i => N - i) 0 ⟨rfl, rfl, rfl, trivial⟩ ⟨Nat.zero_le _, q, r3, rn⟩ ?_
  clear q r3 hsu hwu hwl rn
  have hgg : w.heap.size ≤ g2 ∧ g10 ≠ g2 := by omega
  rintro i W ⟨hi, q, r2, rn⟩
  show CC none Try.prog _ 60 [] (sl [(1, .pointer (some ⟨g10, 0, none⟩)), (3, .slice (some ⟨g2, 0, none⟩) 64 64), (4, .int .i64 (i : Int))]) _ W
  by_cases hlt : i < N
  case neg =>
    obtain rfl : N = i := by omega
    have e : ps.take N = ps := List.take_of_length_le (by omega)
    rw [e] at r2
    refine CC.seq ?_
    refine CC.seq ?_
    refine CC.region ?_
    refine LL.val (R.move rfl rfl) rfl rfl rfl ?_
    refine LL.val (R.field rfl rfl (I.fld rfl)) rfl rfl rfl ?_
    refine LL.val (R.load rfl rfl (I.ld1 rfl (RowL.cell rn rfl))) rfl rfl rfl ?_
    refine LL.val (R.len rfl rfl rfl rfl) rfl rfl rfl ?_
    refine LL.val (R.ltF rfl rfl rfl (by omega)) rfl rfl rfl ?_
    refine LL.nilS ?_
    refine CC.no rfl ?_
    refine CC.exit ?_
    refine EE.thenX ?_
    refine EE.thenX ?_
    refine EE.inX ?_
    refine EE.thenN ?_
    refine CC.seq ?_
    refine CC.region ?_
    refine LL.val (R.move rfl rfl) rfl rfl rfl ?_
    refine LL.val (R.assign rfl rfl) rfl rfl rfl ?_
    refine LL.nilS ?_
    refine CC.ret ?_
    refine EE.ret _ rfl rfl ?_
    exact ⟨_, rfl, r2, hgg.1, q⟩
  obtain ⟨⟨k1, p1⟩, hx⟩ : ∃ x, ps[i]? = some x := ⟨_, List.getElem?_eq_getElem (by omega)⟩
  have rd := hF _ q
  obtain ⟨b1, o1, rfl, lb1, _⟩ := rd.get prEnc hx
  have m1 : CellsN W ⟨b1, o1 + i * 2, none⟩ 2 [.int .u64 (k1 : Int), .int .u64 (p1 : Int)] := rd.elemN prEnc hx
  have c0 : W.cell? ⟨b1, o1 + i * 2 + 0, none⟩ = some (.int .u64 (k1 : Int)) := m1.at'.at (j := 0) rfl
  have c1 : W.cell? ⟨b1, o1 + i * 2 + 1, none⟩ = some (.int .u64 (p1 : Int)) := m1.at'.at (j := 1) rfl
  have c2 : W.cell? ⟨b1, o1 + i * 2, none⟩ = some (.int .u64 (k1 : Int)) := c0
  have hlen : (layW (layH (7522529147838689024 + l) su lo le wu) (ps.take i)).length = 64 := layW_len rfl (by rw [List.length_take]; omega)
  have hst := layW_set (h := layH (7522529147838689024 + l) su lo le wu) rfl (by omega) hx
  rw [show 8 + 2 * i + 1 = 9 + 2 * i by omega] at hst
  obtain ⟨X, hX⟩ : ∃ X, layW (layH (7522529147838689024 + l) su lo le wu) (ps.take i) = X := ⟨_, rfl⟩
  rw [hX] at r2 hlen hst
  clear rd
  refine CC.seq ?_
  refine CC.seq ?_
  refine CC.region ?_
  refine LL.val (R.move rfl rfl) rfl rfl rfl ?_
  refine LL.val (R.field rfl rfl (I.fld rfl)) rfl rfl rfl ?_
  refine LL.val (R.load rfl rfl (I.ld1 rfl (RowL.cell rn rfl))) rfl rfl rfl ?_
  refine LL.val (R.len rfl rfl rfl rfl) rfl rfl rfl ?_
  refine LL.val (R.ltT rfl rfl rfl (by omega)) rfl rfl rfl ?_
  refine LL.nilS ?_
  refine CC.yes rfl ?_
  refine CC.skip ?_
  refine EE.thenN ?_
  refine CC.seq ?_
  refine CC.block ?_
  refine CC.freeZ (fun W_ j => j < W_.heap.size ∧ (j ≠ g2)) (by kernel_rfl) (by kernel_rfl) (fun Wb126 bb125 zb127 => ?_)
  replace q := q.trans (bb125.mono q.size)
  replace rn := rn.up bb125
  replace m1 := m1.up bb125
  replace c0 := cell_up c0 bb125
  replace c1 := cell_up c1 bb125
  replace c2 := cell_up c2 bb125
  replace r2 := r2.up bb125
  have hok : Kept (fun j => j < Wb126.heap.size ∧ (j ≠ g2)) Wb126 Wb126 := Kept.refl _ _
  have fzrn := fzRow (K := fun j => j < Wb126.heap.size ∧ (j ≠ g2)) rn ⟨rn.lt, (by first | trivial | omega)⟩
  refine AA.pure 0 rfl hok (by kernel_rfl) (fun w' b' => R.move rfl rfl) rfl rfl ?_
  refine AA.pure 1 rfl hok (by kernel_rfl) (fun w' b' => R.move rfl rfl) rfl rfl ?_
  refine AA.pure 2 rfl hok (by kernel_rfl) (fun w' b' => R.mulcN rfl rfl rfl rfl (by omega)) rfl rfl ?_
  refine AA.pure 3 rfl hok (by kernel_rfl) (fun w' b' => R.addI rfl rfl rfl (by omega)) rfl rfl ?_
  refine AA.pure 4 rfl hok (by kernel_rfl) (fun w' b' => R.move rfl rfl) rfl rfl ?_
  refine AA.pure 5 rfl hok (by kernel_rfl) (fun w' b' => R.move rfl rfl) rfl rfl ?_
  refine AA.pure 6 rfl hok (by kernel_rfl) (fun w' b' => R.mulcN rfl rfl rfl rfl (by omega)) rfl rfl ?_
  refine AA.pure 7 rfl hok (by kernel_rfl) (fun w' b' => R.addI rfl rfl rfl (by omega)) rfl rfl ?_
  refine AA.pure 8 rfl hok (by kernel_rfl) (fun w' b' => R.field rfl rfl (I.fld rfl)) rfl rfl ?_
  refine AA.pure 9 rfl hok (by kernel_rfl) (fun w' b' => R.load rfl rfl (I.ld1 rfl (RowL.cell (fzrn w' b') rfl))) rfl rfl ?_
  refine AA.pure 10 rfl hok (by kernel_rfl) (fun w' b' => R.move rfl rfl) rfl rfl ?_
  refine AA.pure 11 rfl hok (by kernel_rfl) (fun w' b' => R.index rfl rfl rfl (I.ixS rfl (by omega))) rfl rfl ?_
  refine AA.pure 12 rfl hok (by kernel_rfl) (fun w' b' => R.field rfl rfl (I.fld rfl)) rfl rfl ?_
  refine AA.pure 14 rfl hok (by kernel_rfl) (fun w' b' => R.field rfl rfl (I.fld rfl)) rfl rfl ?_
  refine AA.pure 15 rfl hok (by kernel_rfl) (fun w' b' => R.load rfl rfl (I.ld1 rfl (RowL.cell (fzrn w' b') rfl))) rfl rfl ?_
  refine AA.pure 16 rfl hok (by kernel_rfl) (fun w' b' => R.move rfl rfl) rfl rfl ?_
  refine AA.pure 17 rfl hok (by kernel_rfl) (fun w' b' => R.index rfl rfl rfl (I.ixS rfl (by omega))) rfl rfl ?_
  refine AA.pure 18 rfl hok (by kernel_rfl) (fun w' b' => R.field rfl rfl (I.fld rfl)) rfl rfl ?_
  refine AA.two 13 19 (by kernel_rfl) ?_ ?_
  refine SR.val rfl (R.load rfl rfl (I.ld1 rfl (by assumption))) rfl rfl hok ?_
  refine AA.one 19 (by kernel_rfl) ?_
  refine SR.val rfl (R.load rfl rfl (I.ld1 rfl (by assumption))) rfl rfl hok ?_
  refine AA.one 20 (by kernel_rfl) ?_
  (show SR _ _ _ 20 _ _ _ _ _; refine SR.val rfl (R.index (vx := .slice (some ⟨g2, 0, none⟩) 64 64) rfl rfl rfl (I.ixS1 (i := 8 + 2 * i) rfl (by omega))) rfl rfl hok ?_)
  refine AA.one 21 (by kernel_rfl) ?_
  (show SR _ _ _ 21 _ _ _ _ _; refine ZR.store (off := 0 + (8 + 2 * i)) rfl rfl rfl rfl rfl r2 (by simp [ints]; omega) rfl rfl rfl rfl ?_; intro Wb159 r9 grb157 zz9; rw [Nat.zero_add, ints_set] at r9; clear r2)
  have zgrb157 := grb157.size
  replace q := q.grown grb157 q.size (by rintro k ⟨⟩; omega)
  replace rn := rn.gr grb157 (by have := rn.lt; omega)
  replace hok := hok.trans (grown_kept grb157 (fun j h => by have := h.1; have := hok.size; omega) (fun j h e => by cases e; have h2 := h.1; have h3 := h.2; omega))
  refine ⟨hok, ?_⟩
  refine AA.one 22 (by kernel_rfl) ?_
  (show SR _ _ _ 22 _ _ _ _ _; refine SR.val rfl (R.index (vx := .slice (some ⟨g2, 0, none⟩) 64 64) rfl rfl rfl (I.ixS1 (i := 9 + 2 * i) rfl (by omega))) rfl rfl hok ?_)
  refine AA.one 23 (by kernel_rfl) ?_
  (show SR _ _ _ 23 _ _ _ _ _; refine ZR.store (off := 0 + (9 + 2 * i)) rfl rfl rfl rfl rfl r9 (by simp [ints]; omega) rfl rfl rfl rfl ?_; intro Wb173 r2 grb171 zz8; rw [Nat.zero_add, ints_set, hst] at r2; clear r9)
  have zgrb171 := grb171.size
  replace q := q.grown grb171 q.size (by rintro k ⟨⟩; omega)
  replace rn := rn.gr grb171 (by have := rn.lt; omega)
  replace hok := hok.trans (grown_kept grb171 (fun j h => by have := h.1; have := hok.size; omega) (fun j h e => by cases e; have h2 := h.1; have h3 := h.2; omega))
  refine ⟨hok, ?_⟩
  refine AA.done rfl ?_
  clear fzrn hok
  refine EE.inN ?_
  refine EE.thenN ?_
  refine CC.region ?_
  refine LL.val (R.move rfl rfl) rfl rfl rfl ?_
  refine LL.val (R.addNc rfl rfl rfl rfl (by omega)) rfl rfl rfl ?_
  refine LL.val (R.assign rfl rfl) rfl rfl rfl ?_
  refine LL.nil ?_
  exact EE.round (i + 1) ⟨rfl, rfl, rfl, trivial⟩ ⟨by show i + 1 ≤ N; omega, q, r2, by assumption⟩ (by show N - (i + 1) < N - i; omega)
  refine SR.val rfl (R.load rfl rfl (I.ld1 rfl (by assumption))) rfl rfl hok ?_
  refine AA.one 13 (by kernel_rfl) ?_
  refine SR.val rfl (R.load rfl rfl (I.ld1 rfl (by assumption))) rfl rfl hok ?_
  refine AA.one 20 (by kernel_rfl) ?_
  (show SR _ _ _ 20 _ _ _ _ _; refine SR.val rfl (R.index (vx := .slice (some ⟨g2, 0, none⟩) 64 64) rfl rfl rfl (I.ixS1 (i := 8 + 2 * i) rfl (by omega))) rfl rfl hok ?_)
  refine AA.one 21 (by kernel_rfl) ?_
  (show SR _ _ _ 21 _ _ _ _ _; refine ZR.store (off := 0 + (8 + 2 * i)) rfl rfl rfl rfl rfl r2 (by simp [ints]; omega) rfl rfl rfl rfl ?_; intro Wb250 r9 grb248 zz9; rw [Nat.zero_add, ints_set] at r9; clear r2)
  have zgrb248 := grb248.size
  replace q := q.grown grb248 q.size (by rintro k ⟨⟩; omega)
  replace rn := rn.gr grb248 (by have := rn.lt; omega)
  replace hok := hok.trans (grown_kept grb248 (fun j h => by have := h.1; have := hok.size; omega) (fun j h e => by cases e; have h2 := h.1; have h3 := h.2; omega))
  refine ⟨hok, ?_⟩
  refine AA.one 22 (by kernel_rfl) ?_
  (show SR _ _ _ 22 _ _ _ _ _; refine SR.val rfl (R.index (vx := .slice (some ⟨g2, 0, none⟩) 64 64) rfl rfl rfl (I.ixS1 (i := 9 + 2 * i) rfl (by omega))) rfl rfl hok ?_)
  refine AA.one 23 (by kernel_rfl) ?_
  (show SR _ _ _ 23 _ _ _ _ _; refine ZR.store (off := 0 + (9 + 2 * i)) rfl rfl rfl rfl rfl r9 (by simp [ints]; omega) rfl rfl rfl rfl ?_; intro Wb264 r2 grb262 zz8; rw [Nat.zero_add, ints_set, hst] at r2; clear r9)
  have zgrb262 := grb262.size
  replace q := q.grown grb262 q.size (by rintro k ⟨⟩; omega)
  replace rn := rn.gr grb262 (by have := rn.lt; omega)
  replace hok := hok.trans (grown_kept grb262 (fun j h => by have := h.1; have := hok.size; omega) (fun j h e => by cases e; have h2 := h.1; have h3 := h.2; omega))
  refine ⟨hok, ?_⟩
  refine AA.done rfl ?_
  clear fzrn hok
  refine EE.inN ?_
  refine EE.thenN ?_
  refine CC.region ?_
  refine LL.val (R.move rfl rfl) rfl rfl rfl ?_
  refine LL.val (R.addNc rfl rfl rfl rfl (by omega)) rfl rfl rfl ?_
  refine LL.val (R.assign rfl rfl) rfl rfl rfl ?_
  refine LL.nil ?_
  exact EE.round (i + 1) ⟨rfl, rfl, rfl, trivial⟩ ⟨by show i + 1 ≤ N; omega, q, r2, by assumption⟩ (by show N - (i + 1) < N - i; omega)
end Go.Proofs.Ytfplilpefhhpnaa
/- node: Split (written by gennd8.py). -/
namespace Go.Proofs.Ytfplilpefhhpnaa
set_option linter.unusedVariables false
set_option linter.unusedSimpArgs false
open Go.RowKit Go.Shelf
set_option maxRecDepth 100000
set_option maxHeartbeats 8000000
/-- A split: the new node's words, the old one's stores. -/
def upW (ws : List Nat) (ps : List Pr) (k p m : Nat) : List Nat := layW (layH (7522529147838689024 + gw ws 0 % 256) (gw ws 1) k (if gw ws 0 % 256 = 0 then 9223372036854775808 else p) 0) (ps.drop (if gw ws 0 % 256 = 0 then m else m + 1))
def splN (blk N t : Nat) : List Pt := ((1 : Int), blk) :: (List.range t).map fun u => ((8 + ((2 * (N - 1 - u) : Nat) : Int) + 1 : Int), 0)
theorem splN_succ (blk N t : Nat) : splN blk N (t + 1) = splN blk N t ++ [((8 + ((2 * (N - 1 - t) : Nat) : Int) + 1 : Int), 0)] := by
  unfold splN
  rw [List.range_succ, List.map_append]
  rfl
theorem splN_len (blk N t : Nat) : (splN blk N t).length = t + 1 := by
  unfold splN
  simp
theorem split_yes (n : Nat) (v : Value) (ws : List Nat) (w : World) (hv : ReadsT uE 1 w v ws) (hn : ws.length = n) (hb : ∀ x ∈ ws, x < 18446744073709551616) (hS : nodeS ws) (blk N m k p : Nat) (hk : 1 ≤ blk ∧ blk ≤ 2047) (ps : List Pr) (eps : readF (gw ws 3) (ws.drop 8) = ps) (hN : ps.length = N) (h2 : 2 ≤ N) (hm : m = N / 2) (hx : ps[m]? = some (k, p)) : Calls Try.prog 18 #[v, .int .i64 (blk : Int)] w fun e w' => ∃ g v', e = .returned (.tuple #[.slice (some ⟨g, 0, none⟩) 64 64, v', .int .i64 0]) ∧ RowL w' g 25 (ints .u64 (upW ws ps k p m)) ∧ OwnsT pE 2 w' w.heap.size 68 v' (splN blk N (N - m)) ∧ w.heap.size ≤ g ∧ Below w.heap.size w w' := by
  have q := Below.refl w.heap.size w
  obtain ⟨a, c, rfl, hc⟩ := hv.form hn
  have hset : ∀ W, Below w.heap.size w W → Calls Try.prog 30 #[.slice a n c] W fun e w' => (∃ vo, e = .returned (.tuple #[vwV ws vo (.slice a n c), .int .i64 0]) ∧ OwnsT prE 2 w' W.heap.size 46 vo ps) ∧ Below W.heap.size W w' := fun W b => (nsettled_any n _ ws W (hv.up b) hn hb).mono fun e w' h => by
    rw [← eps]
    exact ⟨h.1 hS, h.2.2.2⟩
  have hN28 : N ≤ 28 := by
    rw [← hN, ← eps]
    have := readF_len (gw ws 3) (ws.drop 8)
    rw [List.length_drop, hS.1.1] at this
    omega
  have hl0 : gw ws 0 % 256 ≤ 12 := by
    have := hS.1.2.a
    unfold ru1 at this
    omega
  have hs1 : gw ws 1 ≤ 2047 := hS.1.2.b
  clear hv hb hS eps
  refine X.fn Try.func18 rfl (n := 66) rfl rfl ?_
  refine CC.seq ?_
  refine CC.region ?_
  refine LL.val (R.assign rfl rfl) rfl rfl rfl ?_
  refine LL.val (R.assign rfl rfl) rfl rfl rfl ?_
  refine LL.val (R.assign rfl rfl) rfl rfl rfl ?_
  refine LL.nilS ?_
  refine CC.fwd (l := 0) (α := Unit) (fun _ => []) (fun _ => []) (fun _ _ => False) rfl ?first ?pass
  case pass =>
    rintro _ W ⟨⟩
  case first =>
    have hcb : IntKind.u64.wrap (blk : Int) = (blk : Int) := by
      rw [IntKind.wrap_u64]
      omega
    refine CC.seq ?_
    refine CC.region ?_
    refine LL.val (R.assign rfl rfl) rfl rfl rfl ?_
    refine LL.nilS ?_
    refine CC.seq ?_
    refine CC.region ?_
    refine LL.val (R.assign rfl rfl) rfl rfl rfl ?_
    refine LL.nilS ?_
    refine CC.seq ?_
    refine CC.region ?_
    refine LL.val (R.move rfl rfl) rfl rfl rfl ?_
    (refine LL.call (R.call rfl rfl rfl) rfl rfl rfl (hset _ q) ?_; rintro e Wa25 ⟨⟨vo, rfl, oo⟩, ba22⟩; refine ⟨_, rfl, ?_⟩; obtain ⟨av, cv, rfl, hcv⟩ := (oo.reads prEnc).form hN; have ooF := fun X (b : Below Wa25.heap.size Wa25 X) => (oo.up b).reads prEnc; have qS := Below.refl Wa25.heap.size Wa25; clear oo)
    have zba22 := ba22.size
    replace q := q.trans (ba22.mono q.size)
    refine LL.val (R.move rfl rfl) rfl rfl rfl ?_
    refine LL.val (R.extract rfl rfl rfl) rfl rfl rfl ?_
    refine LL.val (R.extract rfl rfl rfl) rfl rfl rfl ?_
    refine LL.alloc ([Value.int IntKind.i64 0, Value.int IntKind.i64 0, Value.int IntKind.u64 0, Value.int IntKind.u64 0, Value.int IntKind.i64 0, Value.slice none 0 0, Value.slice none 0 0]) rfl rfl rfl rfl rfl ?_
    intro Wa58 ga59 ega59 ra60 za61 ba57
    replace ba22 := ba22.trans (ba57.mono ba22.size)
    replace qS := qS.trans (ba57.mono qS.size)
    replace q := q.trans (ba57.mono q.size)
    refine LL.storeN (vs := [Value.int IntKind.i64 ↑(gw ws 0 % 256), Value.int IntKind.i64 ↑(gw ws 1), Value.int IntKind.u64 ↑(gw ws 2), Value.int IntKind.u64 ↑(gw ws 3), Value.int IntKind.i64 ↑(gw ws 4), Value.slice av N cv, Value.slice a n c]) rfl rfl rfl rfl ra60 (by exact Nat.le_of_ble_eq_true rfl) (ones_of rfl) rfl rfl ?_
    intro Wa71 ra72 ba70 za73
    have hlba70 := ra60.lt
    replace ra72 : RowL Wa71 _ 70 [Value.int IntKind.i64 ↑(gw ws 0 % 256), Value.int IntKind.i64 ↑(gw ws 1), Value.int IntKind.u64 ↑(gw ws 2), Value.int IntKind.u64 ↑(gw ws 3), Value.int IntKind.i64 ↑(gw ws 4), Value.slice av N cv, Value.slice a n c] := ra72
    clear ra60
    replace ba57 := ba57.grown ba70 ba57.size (by rintro k ⟨⟩; omega)
    replace ba22 := ba22.grown ba70 ba22.size (by rintro k ⟨⟩; omega)
    replace qS := qS.grown ba70 qS.size (by rintro k ⟨⟩; omega)
    replace q := q.grown ba70 q.size (by rintro k ⟨⟩; omega)
    have ra60 := ra72
    clear ra72
    refine LL.val (R.assign rfl rfl) rfl rfl rfl ?_
    refine LL.nilS ?_
    refine CC.seq ?_
    refine CC.seq ?_
    refine CC.region ?_
    refine LL.val (R.move rfl rfl) rfl rfl rfl ?_
    refine LL.val (R.neF rfl rfl rfl (by omega)) rfl rfl rfl ?_
    refine LL.nilS ?_
    refine CC.no rfl ?_
    refine CC.skip ?_
    refine EE.thenN ?_
    refine CC.seq ?_
    refine CC.seq ?_
    refine CC.region ?_
    refine LL.val (R.move rfl rfl) rfl rfl rfl ?_
    refine LL.val (R.ltF rfl rfl rfl (by omega)) rfl rfl rfl ?_
    refine LL.val (R.move rfl rfl) rfl rfl rfl ?_
    refine LL.val (R.move rfl rfl) rfl rfl rfl ?_
    refine LL.val (R.geF rfl rfl rfl (by omega)) rfl rfl rfl ?_
    refine LL.val (R.pick rfl rfl rfl) rfl rfl rfl ?_
    refine LL.val (R.move rfl rfl) rfl rfl rfl ?_
    refine LL.val (R.field rfl rfl (I.fld rfl)) rfl rfl rfl ?_
    refine LL.val (R.field rfl rfl (I.fld rfl)) rfl rfl rfl ?_
    refine LL.val (R.load rfl rfl (I.ld1 rfl (RowL.cell ra60 rfl))) rfl rfl rfl ?_
    refine LL.val (R.len rfl rfl rfl rfl) rfl rfl rfl ?_
    refine LL.val (R.ltF rfl rfl rfl (by omega)) rfl rfl rfl ?_
    refine LL.val (R.pick rfl rfl rfl) rfl rfl rfl ?_
    refine LL.nilS ?_
    refine CC.no rfl ?_
    refine CC.skip ?_
    refine EE.thenN ?_
    refine CC.seq ?_
    refine CC.region ?_
    refine LL.val (R.field rfl rfl (I.fld rfl)) rfl rfl rfl ?_
    refine LL.val (R.field rfl rfl (I.fld rfl)) rfl rfl rfl ?_
    refine LL.val (R.load rfl rfl (I.ld1 rfl (RowL.cell ra60 rfl))) rfl rfl rfl ?_
    refine LL.val (R.len rfl rfl rfl rfl) rfl rfl rfl ?_
    refine LL.val (R.quoNc rfl rfl rfl rfl (by omega) (by omega)) rfl rfl rfl ?_
    refine LL.val (R.assign rfl rfl) rfl rfl rfl ?_
    refine LL.nilS ?_
    refine CC.seq ?_
    refine CC.region ?_
    refine LL.val (R.move rfl rfl) rfl rfl rfl ?_
    refine LL.val (R.move rfl rfl) rfl rfl rfl ?_
    refine LL.val (R.convI rfl rfl rfl rfl (wrapU (by omega) (by omega))) rfl rfl rfl ?_
    refine LL.val (R.buildV rfl rfl (v := .agg #[Value.int IntKind.i64 1, Value.int IntKind.u64 ↑blk]) (fun _ => by kernel_rfl)) rfl rfl rfl ?_
    have la290 := ra60.lt
    refine LL.lit (e := 68) [Value.int IntKind.i64 1, Value.int IntKind.u64 ↑blk] 1 rfl rfl (fun _ => by kernel_rfl) rfl rfl ?_
    intro Wa292 ga293 ega293 ra294 za295 ba291
    replace ba57 := ba57.trans (ba291.mono ba57.size)
    replace ba22 := ba22.trans (ba291.mono ba22.size)
    replace qS := qS.trans (ba291.mono qS.size)
    replace q := q.trans (ba291.mono q.size)
    replace ra60 := ra60.up ba291
    (have o0 : OwnsT pE 2 Wa292 (ga59 + 1) 68 (.slice none 0 0) [] := OwnsT.none _ _ _; refine LL.appendT2 rfl rfl pEnc ElPut o0 (us := [((1 : Int), blk)]) (RowL.readsT pEnc (ts := [((1 : Int), blk)]) (by assumption) 1 (Nat.le_refl _)) (by simp [maxLen]) (by simp) (by omega) rfl rfl ?_; intro v' Wz oa gra hva; replace q := q.grown gra q.size (fun g hg => by have := own_ge o0 g hg; omega); replace qS := qS.grown gra qS.size (fun g hg => by have := own_ge o0 g hg; omega); replace ra60 := ra60.grO gra (own_ne o0 (by omega)); clear o0 hva gra; replace oa : OwnsT pE 2 Wz (ga59 + 1) 68 v' (splN blk N 0) := oa; obtain ⟨a3, c3, rfl, hc3⟩ := (oa.reads pEnc).form (splN_len _ _ 0))
    refine LL.val (R.assign rfl rfl) rfl rfl rfl ?_
    refine LL.nilS ?_
    refine CC.seq ?_
    refine CC.seq ?_
    refine CC.region ?_
    refine LL.val (R.field rfl rfl (I.fld rfl)) rfl rfl rfl ?_
    refine LL.val (R.field rfl rfl (I.fld rfl)) rfl rfl rfl ?_
    refine LL.val (R.load rfl rfl (I.ld1 rfl (RowL.cell ra60 rfl))) rfl rfl rfl ?_
    refine LL.val (R.len rfl rfl rfl rfl) rfl rfl rfl ?_
    refine LL.val (R.subNc rfl rfl rfl rfl (by omega) (by omega)) rfl rfl rfl ?_
    refine LL.val (R.assign rfl rfl) rfl rfl rfl ?_
    refine LL.nilS ?_
    refine CC.block ?_
    refine CC.loop (α := Nat × Value) (fun s => [(7, s.2), (8, .int .i64 ((N / 2 : Nat) : Int)), (9, .pointer (some ⟨ga59, 0, none⟩)), (11, .int .i64 ((N - 1 - s.1 : Nat) : Int))]) (fun s W => s.1 ≤ N - N / 2 ∧ Below w.heap.size w W ∧ Below Wa25.heap.size Wa25 W ∧ RowL W ga59 70 (viewL ((gw ws 0 % 256 : Nat) : Int) (gw ws 1 : Int) (gw ws 2) (gw ws 3) (gw ws 4 : Int) (.slice av N cv) (.slice a n c)) ∧ OwnsT pE 2 W (ga59 + 1) 68 s.2 (splN blk N s.1)) (fun s => N - s.1) (0, .slice a3 1 c3) ⟨rfl, rfl, rfl, rfl, trivial⟩ ⟨Nat.zero_le _, q, qS, ra60, oa⟩ ?_
    clear q qS ra60 oa hc3 hcb
    rintro ⟨t, v⟩ W ⟨ht, q, qS, ra, oa⟩
    simp only at ht oa
    show CC none Try.prog _ 66 [] (sl [(7, v), (8, .int .i64 ((N / 2 : Nat) : Int)), (9, .pointer (some ⟨ga59, 0, none⟩)), (11, .int .i64 ((N - 1 - t : Nat) : Int))]) _ W
    obtain ⟨a3, c3, rfl, hc3⟩ := (oa.reads pEnc).form (splN_len _ _ t)
    have lw := qS.size
    have hw1 : IntKind.u64.wrap (gw ws 1 : Int) = (gw ws 1 : Int) := by
      rw [IntKind.wrap_u64]
      omega
    have hw0 : IntKind.u64.wrap (0 : Int) = ((0 : Nat) : Int) := by
      rw [IntKind.wrap_u64]
      rfl
    by_cases hlt : t < N - N / 2
    case neg =>
      obtain rfl : t = N - N / 2 := by omega
      subst hm
      by_cases h0 : gw ws 0 % 256 = 0
      · have eU : upW ws ps k p (N / 2) = layW (layH (7522529147838689024 + gw ws 0 % 256) (gw ws 1) k 9223372036854775808 0) (ps.drop (N / 2)) := by
          unfold upW
          rw [if_pos h0, if_pos h0]
        rw [eU]
        refine CC.seq ?_
        refine CC.seq ?_
        refine CC.region ?_
        refine LL.val (R.move rfl rfl) rfl rfl rfl ?_
        refine LL.val (R.move rfl rfl) rfl rfl rfl ?_
        refine LL.val (R.geF rfl rfl rfl (by omega)) rfl rfl rfl ?_
        refine LL.nilS ?_
        refine CC.no rfl ?_
        refine CC.exit ?_
        refine EE.thenX ?_
        refine EE.thenX ?_
        refine EE.inX ?_
        refine EE.thenN ?_
        refine CC.seq ?_
        refine CC.seq ?_
        refine CC.region ?_
        refine LL.val (R.move rfl rfl) rfl rfl rfl ?_
        have lb69 := ra.lt
        (refine LL.call (R.call rfl rfl rfl) rfl rfl rfl (upper_leaf _ _ _ _ _ _ _ _ _ _ ps _ k p _ (by assumption) (ooF _ qS) hN (by omega) hx h0) ?_; rintro e Wb68 ⟨rfl, bb65⟩; refine ⟨_, rfl, ?_⟩)
        have zbb65 := bb65.size
        replace q := q.trans (bb65.mono q.size)
        replace qS := qS.trans (bb65.mono qS.size)
        replace ra := ra.up bb65
        replace oa := oa.up bb65
        have lb85 := ra.lt
        (refine LL.call (R.call rfl rfl rfl) rfl rfl rfl (lay_any _ _ (gw ws 1) _ _ _ 0 (ps.drop (N / 2)) _ _ ((ooF _ qS).from prEnc (by omega)) hl0 (by rw [List.length_drop]; omega) hw1 hw0) ?_; rintro e Wb84 ⟨g8, rfl, r8, hg8, bb81⟩; refine ⟨_, rfl, ?_⟩)
        have zbb81 := bb81.size
        replace bb65 := bb65.trans (bb81.mono bb65.size)
        replace q := q.trans (bb81.mono q.size)
        replace qS := qS.trans (bb81.mono qS.size)
        replace ra := ra.up bb81
        replace oa := oa.up bb81
        refine LL.val (R.move rfl rfl) rfl rfl rfl ?_
        refine LL.val (R.assign rfl rfl) rfl rfl rfl ?_
        refine LL.val (R.assign rfl rfl) rfl rfl rfl ?_
        refine LL.val (R.assign rfl rfl) rfl rfl rfl ?_
        refine LL.nilS ?_
        refine CC.ret ?_
        refine EE.thenR ?_
        refine EE.jumpR ?_
        refine EE.ret _ rfl rfl ?_
        exact ⟨_, _, rfl, by assumption, OwnsT.lower (by assumption) (by omega), by omega, q⟩
      · have eU : upW ws ps k p (N / 2) = layW (layH (7522529147838689024 + gw ws 0 % 256) (gw ws 1) k p 0) (ps.drop (N / 2 + 1)) := by
          unfold upW
          rw [if_neg h0, if_neg h0]
        rw [eU]
        have h0' : 0 < gw ws 0 % 256 := by omega
        refine CC.seq ?_
        refine CC.seq ?_
        refine CC.region ?_
        refine LL.val (R.move rfl rfl) rfl rfl rfl ?_
        refine LL.val (R.move rfl rfl) rfl rfl rfl ?_
        refine LL.val (R.geF rfl rfl rfl (by omega)) rfl rfl rfl ?_
        refine LL.nilS ?_
        refine CC.no rfl ?_
        refine CC.exit ?_
        refine EE.thenX ?_
        refine EE.thenX ?_
        refine EE.inX ?_
        refine EE.thenN ?_
        refine CC.seq ?_
        refine CC.seq ?_
        refine CC.region ?_
        refine LL.val (R.move rfl rfl) rfl rfl rfl ?_
        have lc69 := ra.lt
        (refine LL.call (R.call rfl rfl rfl) rfl rfl rfl (upper_in _ _ _ _ _ _ _ _ _ _ ps _ k p _ (by assumption) (ooF _ qS) hN (by omega) hx h0') ?_; rintro e Wc68 ⟨rfl, bc65⟩; refine ⟨_, rfl, ?_⟩)
        have zbc65 := bc65.size
        replace q := q.trans (bc65.mono q.size)
        replace qS := qS.trans (bc65.mono qS.size)
        replace ra := ra.up bc65
        replace oa := oa.up bc65
        have lc85 := ra.lt
        (refine LL.call (R.call rfl rfl rfl) rfl rfl rfl (lay_any _ _ (gw ws 1) _ _ _ 0 (ps.drop (N / 2 + 1)) _ _ ((ooF _ qS).from prEnc (by omega)) hl0 (by rw [List.length_drop]; omega) hw1 hw0) ?_; rintro e Wc84 ⟨g8, rfl, r8, hg8, bc81⟩; refine ⟨_, rfl, ?_⟩)
        have zbc81 := bc81.size
        replace bc65 := bc65.trans (bc81.mono bc65.size)
        replace q := q.trans (bc81.mono q.size)
        replace qS := qS.trans (bc81.mono qS.size)
        replace ra := ra.up bc81
        replace oa := oa.up bc81
        refine LL.val (R.move rfl rfl) rfl rfl rfl ?_
        refine LL.val (R.assign rfl rfl) rfl rfl rfl ?_
        refine LL.val (R.assign rfl rfl) rfl rfl rfl ?_
        refine LL.val (R.assign rfl rfl) rfl rfl rfl ?_
        refine LL.nilS ?_
        refine CC.ret ?_
        refine EE.thenR ?_
        refine EE.jumpR ?_
        refine EE.ret _ rfl rfl ?_
        exact ⟨_, _, rfl, by assumption, OwnsT.lower (by assumption) (by omega), by omega, q⟩
    have e3 := splN_succ blk N t
    have hsl := splN_len blk N t
    refine CC.seq ?_
    refine CC.seq ?_
    refine CC.region ?_
    refine LL.val (R.move rfl rfl) rfl rfl rfl ?_
    refine LL.val (R.move rfl rfl) rfl rfl rfl ?_
    refine LL.val (R.geT rfl rfl rfl (by omega)) rfl rfl rfl ?_
    refine LL.nilS ?_
    refine CC.yes rfl ?_
    refine CC.skip ?_
    refine EE.thenN ?_
    refine CC.seq ?_
    refine CC.block ?_
    refine CC.region ?_
    refine LL.val (R.move rfl rfl) rfl rfl rfl ?_
    refine LL.val (R.move rfl rfl) rfl rfl rfl ?_
    refine LL.val (R.mulcN rfl rfl rfl rfl (by omega)) rfl rfl rfl ?_
    refine LL.val (R.addI rfl rfl rfl (by omega)) rfl rfl rfl ?_
    refine LL.val (R.addI rfl rfl rfl (by omega)) rfl rfl rfl ?_
    refine LL.val (R.buildV rfl rfl (v := .agg #[Value.int IntKind.i64 (8 + ↑(2 * (N - 1 - t)) + 1), Value.int IntKind.u64 0]) (fun _ => by kernel_rfl)) rfl rfl rfl ?_
    have ld1 := ra.lt
    refine LL.lit (e := 68) [Value.int IntKind.i64 (8 + ↑(2 * (N - 1 - t)) + 1), Value.int IntKind.u64 0] 1 rfl rfl (fun _ => by kernel_rfl) rfl rfl ?_
    intro Wd3 gd4 egd4 rd5 zd6 bd2
    replace q := q.trans (bd2.mono q.size)
    replace qS := qS.trans (bd2.mono qS.size)
    replace ra := ra.up bd2
    replace oa := oa.up bd2
    (refine LL.appendT2 rfl rfl pEnc ElPut oa (us := [((8 + ((2 * (N - 1 - t) : Nat) : Int) + 1 : Int), 0)]) (RowL.readsT pEnc (ts := [((8 + ((2 * (N - 1 - t) : Nat) : Int) + 1 : Int), 0)]) (by assumption) 1 (Nat.le_refl _)) (by simp [maxLen]; omega) (by simp; omega) (by omega) rfl rfl ?_; intro v' Wz ob gra hva; replace q := q.grown gra q.size (fun g hg => by have := own_ge oa g hg; omega); replace qS := qS.grown gra qS.size (fun g hg => by have := own_ge oa g hg; omega); replace ra := ra.grO gra (own_ne oa (by omega)); clear oa hva gra; rw [← e3] at ob)
    refine LL.val (R.assign rfl rfl) rfl rfl rfl ?_
    refine LL.nil ?_
    refine EE.inN ?_
    refine EE.thenN ?_
    refine CC.region ?_
    refine LL.val (R.move rfl rfl) rfl rfl rfl ?_
    refine LL.val (R.subNc rfl rfl rfl rfl (by omega) (by omega)) rfl rfl rfl ?_
    refine LL.val (R.assign rfl rfl) rfl rfl rfl ?_
    refine LL.nil ?_
    exact EE.round (t + 1, _) ⟨rfl, rfl, rfl, rfl, trivial⟩ ⟨by show t + 1 ≤ N - N / 2; omega, q, qS, ra, ob⟩ (by show N - (t + 1) < N - t; omega)
end Go.Proofs.Ytfplilpefhhpnaa
/- node: the document's Split (written by gennd25.py). -/
namespace Go.Proofs.Ytfplilpefhhpnaa
set_option linter.unusedVariables false
set_option linter.unusedSimpArgs false
open Go.RowKit Go.Shelf
set_option maxRecDepth 100000
set_option maxHeartbeats 8000000
theorem rSplit_bad (n : Nat) (v : Value) (ws : List Nat) (w : World) (hv : ReadsT uE 1 w v ws) (hn : ws.length = n) (hb : ∀ x ∈ ws, x < 18446744073709551616) (blk : Int) (er : Nat) (he : er ≠ 0) (h : chkN ws = er) : Calls Try.prog 19 #[v, .int .i64 blk] w fun e w' => e = .returned (.tuple #[nilV, nilV, .int .i64 (er : Int)]) ∧ Below w.heap.size w w' := by
  have q := Below.refl w.heap.size w
  obtain ⟨a, c, rfl, hc⟩ := hv.form hn
  have hck := fun W (b : Below w.heap.size w W) => rCheck_any n _ ws W (hv.up b) hn hb
  rw [h] at hck
  have he' : (er : Int) ≠ 0 := by omega
  clear hv hb
  refine X.fn Try.func19 rfl (n := 94) rfl rfl ?_
  refine CC.seq ?_
  refine CC.region ?_
  refine LL.val (R.assign rfl rfl) rfl rfl rfl ?_
  refine LL.val (R.assign rfl rfl) rfl rfl rfl ?_
  refine LL.val (R.assign rfl rfl) rfl rfl rfl ?_
  refine LL.nilS ?_
  refine CC.seq ?_
  refine CC.seq ?_
  refine CC.region ?_
  refine LL.val (R.move rfl rfl) rfl rfl rfl ?_
  (refine LL.call (R.call rfl rfl rfl) rfl rfl rfl (hck _ q) ?_; rintro e W32 ⟨rfl, b29⟩; refine ⟨_, rfl, ?_⟩)
  have zb29 := b29.size
  replace q := q.trans (b29.mono q.size)
  refine LL.val (R.assign rfl rfl) rfl rfl rfl ?_
  refine LL.nilS ?_
  refine CC.seq ?_
  refine CC.region ?_
  refine LL.val (R.move rfl rfl) rfl rfl rfl ?_
  refine LL.val (R.neT rfl rfl rfl (by omega)) rfl rfl rfl ?_
  refine LL.nilS ?_
  refine CC.yes rfl ?_
  refine CC.seq ?_
  refine CC.region ?_
  refine LL.val (R.move rfl rfl) rfl rfl rfl ?_
  refine LL.val (R.assign rfl rfl) rfl rfl rfl ?_
  refine LL.val (R.assign rfl rfl) rfl rfl rfl ?_
  refine LL.val (R.assign rfl rfl) rfl rfl rfl ?_
  refine LL.nilS ?_
  refine CC.ret ?_
  refine EE.thenR ?_
  refine EE.ret _ rfl rfl ?_
  exact ⟨rfl, q⟩
theorem rSplit_arg (n : Nat) (v : Value) (ws : List Nat) (w : World) (hv : ReadsT uE 1 w v ws) (hn : ws.length = n) (hb : ∀ x ∈ ws, x < 18446744073709551616) (hS : nodeS ws) (hck0 : chkN ws = 0) (blk : Int) (N : Nat) (ps : List Pr) (eps : readF (gw ws 3) (ws.drop 8) = ps) (hN : ps.length = N) (h : ¬(1 ≤ blk ∧ blk ≤ 2047 ∧ 2 ≤ N)) : Calls Try.prog 19 #[v, .int .i64 blk] w fun e w' => e = .returned (.tuple #[nilV, nilV, .int .i64 2]) ∧ Below w.heap.size w w' := by
  have q := Below.refl w.heap.size w
  obtain ⟨a, c, rfl, hc⟩ := hv.form hn
  have hck := fun W (b : Below w.heap.size w W) => rCheck_any n _ ws W (hv.up b) hn hb
  have hof := fun W (b : Below w.heap.size w W) => rOf_yes n _ ws W (hv.up b) hn hb hS.1
  unfold ndV at hof
  rw [hck0] at hck
  rw [eps] at hof
  clear hv hb hS eps
  refine X.fn Try.func19 rfl (n := 94) rfl rfl ?_
  refine CC.seq ?_
  refine CC.region ?_
  refine LL.val (R.assign rfl rfl) rfl rfl rfl ?_
  refine LL.val (R.assign rfl rfl) rfl rfl rfl ?_
  refine LL.val (R.assign rfl rfl) rfl rfl rfl ?_
  refine LL.nilS ?_
  refine CC.seq ?_
  refine CC.seq ?_
  refine CC.region ?_
  refine LL.val (R.move rfl rfl) rfl rfl rfl ?_
  (refine LL.call (R.call rfl rfl rfl) rfl rfl rfl (hck _ q) ?_; rintro e W60 ⟨rfl, b57⟩; refine ⟨_, rfl, ?_⟩)
  have zb57 := b57.size
  replace q := q.trans (b57.mono q.size)
  refine LL.val (R.assign rfl rfl) rfl rfl rfl ?_
  refine LL.nilS ?_
  refine CC.seq ?_
  refine CC.region ?_
  refine LL.val (R.move rfl rfl) rfl rfl rfl ?_
  refine LL.val (R.neF rfl rfl rfl (by omega)) rfl rfl rfl ?_
  refine LL.nilS ?_
  refine CC.no rfl ?_
  refine CC.skip ?_
  refine EE.thenN ?_
  refine CC.seq ?_
  refine CC.region ?_
  refine LL.val (R.move rfl rfl) rfl rfl rfl ?_
  (refine LL.call (R.call rfl rfl rfl) rfl rfl rfl (hof _ q) ?_; rintro e W130 ⟨⟨vo, rfl, oo⟩, b127⟩; refine ⟨_, rfl, ?_⟩; obtain ⟨ao, co, rfl, hco⟩ := (oo.reads prEnc).form hN; clear oo)
  have zb127 := b127.size
  replace b57 := b57.trans (b127.mono b57.size)
  replace q := q.trans (b127.mono q.size)
  refine LL.val (R.move rfl rfl) rfl rfl rfl ?_
  refine LL.val (R.extract rfl rfl rfl) rfl rfl rfl ?_
  refine LL.val (R.extract rfl rfl rfl) rfl rfl rfl ?_
  refine LL.alloc ([Value.int IntKind.i64 0, Value.int IntKind.i64 0, Value.int IntKind.u64 0, Value.int IntKind.u64 0, Value.int IntKind.i64 0, Value.slice none 0 0]) rfl rfl rfl rfl rfl ?_
  intro W191 g192 eg192 r193 z194 b190
  replace b127 := b127.trans (b190.mono b127.size)
  replace b57 := b57.trans (b190.mono b57.size)
  replace q := q.trans (b190.mono q.size)
  refine LL.storeN (vs := [Value.int IntKind.i64 ↑(gw ws 0 % 256), Value.int IntKind.i64 ↑(gw ws 1), Value.int IntKind.u64 ↑(gw ws 2), Value.int IntKind.u64 ↑(gw ws 3), Value.int IntKind.i64 ↑(gw ws 4), Value.slice ao N co]) rfl rfl rfl rfl r193 (by exact Nat.le_of_ble_eq_true rfl) (ones_of rfl) rfl rfl ?_
  intro W212 r213 b211 z214
  have hlb211 := r193.lt
  replace r213 : RowL W212 _ 29 [Value.int IntKind.i64 ↑(gw ws 0 % 256), Value.int IntKind.i64 ↑(gw ws 1), Value.int IntKind.u64 ↑(gw ws 2), Value.int IntKind.u64 ↑(gw ws 3), Value.int IntKind.i64 ↑(gw ws 4), Value.slice ao N co] := r213
  clear r193
  replace b190 := b190.grown b211 b190.size (by rintro k ⟨⟩; omega)
  replace b127 := b127.grown b211 b127.size (by rintro k ⟨⟩; omega)
  replace b57 := b57.grown b211 b57.size (by rintro k ⟨⟩; omega)
  replace q := q.grown b211 q.size (by rintro k ⟨⟩; omega)
  have r193 := r213
  clear r213
  refine LL.val (R.assign rfl rfl) rfl rfl rfl ?_
  refine LL.nilS ?_
  refine CC.seq ?_
  refine CC.seq ?_
  refine CC.region ?_
  refine LL.val (R.move rfl rfl) rfl rfl rfl ?_
  refine LL.vsplit (fun h => R.ltT rfl rfl rfl h) (fun h => R.ltF rfl rfl rfl (Int.not_lt.1 h)) rfl rfl rfl (fun c263 => ?_) (fun c263 => ?_)
  refine LL.val (R.move rfl rfl) rfl rfl rfl ?_
  refine LL.skip rfl rfl ?_
  refine LL.skip rfl rfl ?_
  refine LL.val (R.pick rfl rfl rfl) rfl rfl rfl ?_
  refine LL.val (R.move rfl rfl) rfl rfl rfl ?_
  refine LL.skip rfl rfl ?_
  refine LL.skip rfl rfl ?_
  refine LL.skip rfl rfl ?_
  refine LL.skip rfl rfl ?_
  refine LL.val (R.pick rfl rfl rfl) rfl rfl rfl ?_
  refine LL.nilS ?_
  refine CC.yes rfl ?_
  refine CC.seq ?_
  refine CC.region ?_
  refine LL.val (R.assign rfl rfl) rfl rfl rfl ?_
  refine LL.val (R.assign rfl rfl) rfl rfl rfl ?_
  refine LL.val (R.assign rfl rfl) rfl rfl rfl ?_
  refine LL.nilS ?_
  refine CC.ret ?_
  refine EE.thenR ?_
  refine EE.ret _ rfl rfl ?_
  exact ⟨rfl, q⟩
  refine LL.val (R.move rfl rfl) rfl rfl rfl ?_
  refine LL.val (R.move rfl rfl) rfl rfl rfl ?_
  refine LL.vsplit (fun h => R.gtT rfl rfl rfl h) (fun h => R.gtF rfl rfl rfl (Int.not_lt.1 h)) rfl rfl rfl (fun c424 => ?_) (fun c424 => ?_)
  refine LL.val (R.pick rfl rfl rfl) rfl rfl rfl ?_
  refine LL.val (R.move rfl rfl) rfl rfl rfl ?_
  refine LL.skip rfl rfl ?_
  refine LL.skip rfl rfl ?_
  refine LL.skip rfl rfl ?_
  refine LL.skip rfl rfl ?_
  refine LL.val (R.pick rfl rfl rfl) rfl rfl rfl ?_
  refine LL.nilS ?_
  refine CC.yes rfl ?_
  refine CC.seq ?_
  refine CC.region ?_
  refine LL.val (R.assign rfl rfl) rfl rfl rfl ?_
  refine LL.val (R.assign rfl rfl) rfl rfl rfl ?_
  refine LL.val (R.assign rfl rfl) rfl rfl rfl ?_
  refine LL.nilS ?_
  refine CC.ret ?_
  refine EE.thenR ?_
  refine EE.ret _ rfl rfl ?_
  exact ⟨rfl, q⟩
  refine LL.val (R.pick rfl rfl rfl) rfl rfl rfl ?_
  refine LL.val (R.move rfl rfl) rfl rfl rfl ?_
  refine LL.val (R.field rfl rfl (I.fld rfl)) rfl rfl rfl ?_
  refine LL.val (R.load rfl rfl (I.ld1 rfl (RowL.cell r193 rfl))) rfl rfl rfl ?_
  refine LL.val (R.len rfl rfl rfl rfl) rfl rfl rfl ?_
  refine LL.val (R.ltT rfl rfl rfl (by omega)) rfl rfl rfl ?_
  refine LL.val (R.pick rfl rfl rfl) rfl rfl rfl ?_
  refine LL.nilS ?_
  refine CC.yes rfl ?_
  refine CC.seq ?_
  refine CC.region ?_
  refine LL.val (R.assign rfl rfl) rfl rfl rfl ?_
  refine LL.val (R.assign rfl rfl) rfl rfl rfl ?_
  refine LL.val (R.assign rfl rfl) rfl rfl rfl ?_
  refine LL.nilS ?_
  refine CC.ret ?_
  refine EE.thenR ?_
  refine EE.ret _ rfl rfl ?_
  exact ⟨rfl, q⟩
theorem rSplit_yes (n : Nat) (v : Value) (ws : List Nat) (w : World) (hv : ReadsT uE 1 w v ws) (hn : ws.length = n) (hb : ∀ x ∈ ws, x < 18446744073709551616) (hS : nodeS ws) (hck0 : chkN ws = 0) (blk N m k p : Nat) (hk : 1 ≤ blk ∧ blk ≤ 2047) (ps : List Pr) (eps : readF (gw ws 3) (ws.drop 8) = ps) (hN : ps.length = N) (h2 : 2 ≤ N) (hm : m = N / 2) (hx : ps[m]? = some (k, p)) : Calls Try.prog 19 #[v, .int .i64 (blk : Int)] w fun e w' => ∃ g v', e = .returned (.tuple #[.slice (some ⟨g, 0, none⟩) 64 64, v', .int .i64 0]) ∧ RowL w' g 25 (ints .u64 (upW ws ps k p m)) ∧ OwnsT pE 2 w' w.heap.size 68 v' (splN blk N (N - m)) ∧ w.heap.size ≤ g ∧ Below w.heap.size w w' := by
  have q := Below.refl w.heap.size w
  obtain ⟨a, c, rfl, hc⟩ := hv.form hn
  have hck := fun W (b : Below w.heap.size w W) => rCheck_any n _ ws W (hv.up b) hn hb
  have hof := fun W (b : Below w.heap.size w W) => rOf_yes n _ ws W (hv.up b) hn hb hS.1
  unfold ndV at hof
  rw [hck0] at hck
  rw [eps] at hof
  have hN28 : N ≤ 28 := by
    rw [← hN, ← eps]
    have := readF_len (gw ws 3) (ws.drop 8)
    rw [List.length_drop, hS.1.1] at this
    omega
  have hl0 : gw ws 0 % 256 ≤ 12 := by
    have := hS.1.2.a
    unfold ru1 at this
    omega
  have hs1 : gw ws 1 ≤ 2047 := hS.1.2.b
  unfold upW
  obtain ⟨l0, e0⟩ : ∃ l, gw ws 0 % 256 = l := ⟨_, rfl⟩
  obtain ⟨s1, e1⟩ : ∃ l, gw ws 1 = l := ⟨_, rfl⟩
  obtain ⟨lo, e2⟩ : ∃ l, gw ws 2 = l := ⟨_, rfl⟩
  obtain ⟨le, e3⟩ : ∃ l, gw ws 3 = l := ⟨_, rfl⟩
  obtain ⟨wy, e4⟩ : ∃ l, gw ws 4 = l := ⟨_, rfl⟩
  rw [e0, e1, e2, e3, e4] at hof
  rw [e0] at hl0 ⊢
  rw [e1] at hs1 ⊢
  clear hv hb hS eps e0 e1 e2 e3 e4 hck0
  have hcb : IntKind.u64.wrap (blk : Int) = (blk : Int) := by
    rw [IntKind.wrap_u64]
    omega
  have hmN : m < N := by omega
  have hsl : ∀ (m : Nat) (aa : Option Addr) (cc : Nat) (Y : World), m ≤ N → ReadsT prE 2 Y (.slice aa N cc) ps → ∃ a' c', (∀ (P : Program) (T e : TypeId) (w' : World), slB P T = some (e, 2) → (Instr.sliceAt T (.slice aa N cc) (some (.int .i64 (m : Int))) none none).run P w' = .ok (.slice a' (N - m) c') w') ∧ ∀ X, ReadsT prE 2 X (.slice aa N cc) ps → ReadsT prE 2 X (.slice a' (N - m) c') (ps.drop m) := fun m aa cc Y h hY => ⟨_, _, fun P T e w' hs => I.slFromG (lo := m) hs h, fun X hX => hX.from prEnc h⟩
  subst hm
  by_cases h0 : l0 = 0
  case pos =>
    rw [if_pos h0, if_pos h0]
    refine X.fn Try.func19 rfl (n := 94) rfl rfl ?_
    refine CC.seq ?_
    refine CC.region ?_
    refine LL.val (R.assign rfl rfl) rfl rfl rfl ?_
    refine LL.val (R.assign rfl rfl) rfl rfl rfl ?_
    refine LL.val (R.assign rfl rfl) rfl rfl rfl ?_
    refine LL.nilS ?_
    refine CC.seq ?_
    refine CC.seq ?_
    refine CC.region ?_
    refine LL.val (R.move rfl rfl) rfl rfl rfl ?_
    (refine LL.call (R.call rfl rfl rfl) rfl rfl rfl (hck _ q) ?_; rintro e W60 ⟨rfl, b57⟩; refine ⟨_, rfl, ?_⟩)
    have zb57 := b57.size
    replace q := q.trans (b57.mono q.size)
    refine LL.val (R.assign rfl rfl) rfl rfl rfl ?_
    refine LL.nilS ?_
    refine CC.seq ?_
    refine CC.region ?_
    refine LL.val (R.move rfl rfl) rfl rfl rfl ?_
    refine LL.val (R.neF rfl rfl rfl (by omega)) rfl rfl rfl ?_
    refine LL.nilS ?_
    refine CC.no rfl ?_
    refine CC.skip ?_
    refine EE.thenN ?_
    refine CC.seq ?_
    refine CC.region ?_
    refine LL.val (R.move rfl rfl) rfl rfl rfl ?_
    (refine LL.call (R.call rfl rfl rfl) rfl rfl rfl (hof _ q) ?_; rintro e W130 ⟨⟨vo, rfl, oo⟩, b127⟩; refine ⟨_, rfl, ?_⟩; obtain ⟨ao, co, rfl, hco⟩ := (oo.reads prEnc).form hN; obtain ⟨b1, o1, rfl, lb1, _⟩ := (oo.reads prEnc).get prEnc hx; obtain ⟨as1, cs1, hsl1, hsl2⟩ := hsl (N / 2) _ _ _ (by omega) (oo.reads prEnc); obtain ⟨as2, cs2, hsm1, hsm2⟩ := hsl (N / 2 + 1) _ _ _ (by omega) (oo.reads prEnc); obtain ⟨X1, hzX1, hpF, q1⟩ := exposeT (oo.reads prEnc); have zX1 := q1.size; clear oo; have cm0 := fun X (b : Below X1.heap.size X1 X) => (((hpF X b).elemN prEnc hx).at'.at (j := 0) rfl : X.cell? ⟨b1, o1 + N / 2 * 2 + 0, none⟩ = some (.int .u64 (k : Int))); have cm1 := fun X (b : Below X1.heap.size X1 X) => (((hpF X b).elemN prEnc hx).at'.at (j := 1) rfl : X.cell? ⟨b1, o1 + N / 2 * 2 + 1, none⟩ = some (.int .u64 (p : Int))))
    have zb127 := b127.size
    replace b57 := b57.trans (b127.mono b57.size)
    replace q := q.trans (b127.mono q.size)
    refine LL.val (R.move rfl rfl) rfl rfl rfl ?_
    refine LL.val (R.extract rfl rfl rfl) rfl rfl rfl ?_
    refine LL.val (R.extract rfl rfl rfl) rfl rfl rfl ?_
    refine LL.alloc ([Value.int IntKind.i64 0, Value.int IntKind.i64 0, Value.int IntKind.u64 0, Value.int IntKind.u64 0, Value.int IntKind.i64 0, Value.slice none 0 0]) rfl rfl rfl rfl rfl ?_
    intro W191 g192 eg192 r193 z194 b190
    replace b127 := b127.trans (b190.mono b127.size)
    replace q1 := q1.trans (b190.mono q1.size)
    replace b57 := b57.trans (b190.mono b57.size)
    replace q := q.trans (b190.mono q.size)
    refine LL.storeN (vs := [Value.int IntKind.i64 ↑l0, Value.int IntKind.i64 ↑s1, Value.int IntKind.u64 ↑lo, Value.int IntKind.u64 ↑le, Value.int IntKind.i64 ↑wy, Value.slice (some { block := b1, off := o1 }) N co]) rfl rfl rfl rfl r193 (by exact Nat.le_of_ble_eq_true rfl) (ones_of rfl) rfl rfl ?_
    intro W212 r213 b211 z214
    have hlb211 := r193.lt
    replace r213 : RowL W212 _ 29 [Value.int IntKind.i64 ↑l0, Value.int IntKind.i64 ↑s1, Value.int IntKind.u64 ↑lo, Value.int IntKind.u64 ↑le, Value.int IntKind.i64 ↑wy, Value.slice (some { block := b1, off := o1 }) N co] := r213
    clear r193
    replace b190 := b190.grown b211 b190.size (by rintro k ⟨⟩; omega)
    replace b127 := b127.grown b211 b127.size (by rintro k ⟨⟩; omega)
    replace q1 := q1.grown b211 q1.size (by rintro k ⟨⟩; omega)
    replace b57 := b57.grown b211 b57.size (by rintro k ⟨⟩; omega)
    replace q := q.grown b211 q.size (by rintro k ⟨⟩; omega)
    have r193 := r213
    clear r213
    refine LL.val (R.assign rfl rfl) rfl rfl rfl ?_
    refine LL.nilS ?_
    refine CC.seq ?_
    refine CC.seq ?_
    refine CC.region ?_
    refine LL.val (R.move rfl rfl) rfl rfl rfl ?_
    refine LL.val (R.ltF rfl rfl rfl (by omega)) rfl rfl rfl ?_
    refine LL.val (R.move rfl rfl) rfl rfl rfl ?_
    refine LL.val (R.move rfl rfl) rfl rfl rfl ?_
    refine LL.val (R.gtF rfl rfl rfl (by omega)) rfl rfl rfl ?_
    refine LL.val (R.pick rfl rfl rfl) rfl rfl rfl ?_
    refine LL.val (R.move rfl rfl) rfl rfl rfl ?_
    refine LL.val (R.field rfl rfl (I.fld rfl)) rfl rfl rfl ?_
    refine LL.val (R.load rfl rfl (I.ld1 rfl (RowL.cell r193 rfl))) rfl rfl rfl ?_
    refine LL.val (R.len rfl rfl rfl rfl) rfl rfl rfl ?_
    refine LL.val (R.ltF rfl rfl rfl (by omega)) rfl rfl rfl ?_
    refine LL.val (R.pick rfl rfl rfl) rfl rfl rfl ?_
    refine LL.nilS ?_
    refine CC.no rfl ?_
    refine CC.skip ?_
    refine EE.thenN ?_
    refine CC.seq ?_
    refine CC.region ?_
    refine LL.val (R.field rfl rfl (I.fld rfl)) rfl rfl rfl ?_
    refine LL.val (R.load rfl rfl (I.ld1 rfl (RowL.cell r193 rfl))) rfl rfl rfl ?_
    refine LL.val (R.len rfl rfl rfl rfl) rfl rfl rfl ?_
    refine LL.val (R.quoNc rfl rfl rfl rfl (by omega) (by omega)) rfl rfl rfl ?_
    refine LL.val (R.assign rfl rfl) rfl rfl rfl ?_
    refine LL.nilS ?_
    refine CC.seq ?_
    refine CC.freeZ (fun W_ j => j < W_.heap.size ∧ (True)) (by kernel_rfl) (by kernel_rfl) (fun W504 b503 z505 => ?_)
    replace b190 := b190.trans (b503.mono b190.size)
    replace b127 := b127.trans (b503.mono b127.size)
    replace q1 := q1.trans (b503.mono q1.size)
    replace b57 := b57.trans (b503.mono b57.size)
    replace q := q.trans (b503.mono q.size)
    replace r193 := r193.up b503
    have hok : Kept (fun j => j < W504.heap.size ∧ (True)) W504 W504 := Kept.refl _ _
    have fzr193 := fzRow (K := fun j => j < W504.heap.size ∧ (True)) r193 ⟨r193.lt, (by first | trivial | omega)⟩
    refine AA.pure 0 rfl hok (by kernel_rfl) (fun w' b' => R.field rfl rfl (I.fld rfl)) rfl rfl ?_
    refine AA.pure 1 rfl hok (by kernel_rfl) (fun w' b' => R.load rfl rfl (I.ld1 rfl (RowL.cell (fzr193 w' b') rfl))) rfl rfl ?_
    refine AA.pure 2 rfl hok (by kernel_rfl) (fun w' b' => R.field rfl rfl (I.fld rfl)) rfl rfl ?_
    refine AA.pure 3 rfl hok (by kernel_rfl) (fun w' b' => R.load rfl rfl (I.ld1 rfl (RowL.cell (fzr193 w' b') rfl))) rfl rfl ?_
    refine AA.pure 4 rfl hok (by kernel_rfl) (fun w' b' => R.field rfl rfl (I.fld rfl)) rfl rfl ?_
    refine AA.pure 5 rfl hok (by kernel_rfl) (fun w' b' => R.load rfl rfl (I.ld1 rfl (RowL.cell (fzr193 w' b') rfl))) rfl rfl ?_
    refine AA.pure 6 rfl hok (by kernel_rfl) (fun w' b' => R.move rfl rfl) rfl rfl ?_
    refine AA.pure 7 rfl hok (by kernel_rfl) (fun w' b' => R.index rfl rfl rfl (I.ixS rfl (by omega))) rfl rfl ?_
    refine AA.pure 8 rfl hok (by kernel_rfl) (fun w' b' => R.field rfl rfl (I.fld rfl)) rfl rfl ?_
    refine AA.pure 9 rfl hok (by kernel_rfl) (fun w' b' => R.load rfl rfl (I.ld1 rfl (cell_kept (cm0 _ q1) b' ⟨by have := q1.size; omega, trivial⟩))) rfl rfl ?_
    refine AA.pure 10 rfl hok (by kernel_rfl) (fun w' b' => R.field rfl rfl (I.fld rfl)) rfl rfl ?_
    refine AA.pure 11 rfl hok (by kernel_rfl) (fun w' b' => R.load rfl rfl (I.ld1 rfl (RowL.cell (fzr193 w' b') rfl))) rfl rfl ?_
    refine AA.pure 12 rfl hok (by kernel_rfl) (fun w' b' => R.move rfl rfl) rfl rfl ?_
    refine AA.pure 13 rfl hok (by kernel_rfl) (fun w' b' => R.slice rfl rfl rfl rfl rfl (hsl1 _ _ _ _ rfl)) rfl rfl ?_
    refine AA.pure 14 rfl hok (by kernel_rfl) (fun w' b' => R.buildV rfl rfl (v := .agg #[Value.int IntKind.i64 ↑l0, Value.int IntKind.i64 ↑s1, Value.int IntKind.u64 ↑k, Value.int IntKind.u64 9223372036854775808, Value.int IntKind.i64 0, Value.slice as1 (N - N / 2) cs1]) (fun _ => by kernel_rfl)) rfl rfl ?_
    refine AA.one 15 (by kernel_rfl) ?_
    have l522 := r193.lt
    refine ZR.alloc ([Value.int IntKind.i64 0, Value.int IntKind.i64 0, Value.int IntKind.u64 0, Value.int IntKind.u64 0, Value.int IntKind.i64 0, Value.slice none 0 0]) rfl rfl rfl rfl rfl rfl ?_
    intro W524 g525 eg525 r526 z527 b523
    replace b503 := b503.trans (b523.mono b503.size)
    replace b190 := b190.trans (b523.mono b190.size)
    replace b127 := b127.trans (b523.mono b127.size)
    replace q1 := q1.trans (b523.mono q1.size)
    replace b57 := b57.trans (b523.mono b57.size)
    replace q := q.trans (b523.mono q.size)
    replace r193 := r193.up b523
    replace hok := hok.trans (bkept b523 (fun j h => by have := h.1; have := hok.size; omega))
    have y528 := hok.size
    refine ⟨hok, ?_⟩
    refine AA.one 16 (by kernel_rfl) ?_
    refine ZR.storeN (vs := [Value.int IntKind.i64 ↑l0, Value.int IntKind.i64 ↑s1, Value.int IntKind.u64 ↑k, Value.int IntKind.u64 9223372036854775808, Value.int IntKind.i64 0, Value.slice as1 (N - N / 2) cs1]) rfl rfl rfl rfl rfl r526 (by exact Nat.le_of_ble_eq_true rfl) (ones_of rfl) rfl rfl ?_
    intro W548 r549 b547 z550
    have hlb547 := r526.lt
    replace r549 : RowL W548 _ 29 [Value.int IntKind.i64 ↑l0, Value.int IntKind.i64 ↑s1, Value.int IntKind.u64 ↑k, Value.int IntKind.u64 9223372036854775808, Value.int IntKind.i64 0, Value.slice as1 (N - N / 2) cs1] := r549
    clear r526
    replace b523 := b523.grown b547 b523.size (by rintro k ⟨⟩; omega)
    replace b503 := b503.grown b547 b503.size (by rintro k ⟨⟩; omega)
    replace b190 := b190.grown b547 b190.size (by rintro k ⟨⟩; omega)
    replace b127 := b127.grown b547 b127.size (by rintro k ⟨⟩; omega)
    replace q1 := q1.grown b547 q1.size (by rintro k ⟨⟩; omega)
    replace b57 := b57.grown b547 b57.size (by rintro k ⟨⟩; omega)
    replace q := q.grown b547 q.size (by rintro k ⟨⟩; omega)
    replace r193 := r193.gr b547 (by have := r193.lt; omega)
    replace hok := hok.trans (grown_kept b547 (fun j h => by have := h.1; have := hok.size; omega) (fun j h e => by cases e; have h2 := h.1; have h3 := h.2; omega))
    have r526 := r549
    clear r549
    refine ⟨hok, ?_⟩
    refine AA.done rfl ?_
    clear fzr193 hok
    refine EE.thenN ?_
    refine CC.seq ?_
    refine CC.seq ?_
    refine CC.region ?_
    refine LL.val (R.field rfl rfl (I.fld rfl)) rfl rfl rfl ?_
    refine LL.val (R.load rfl rfl (I.ld1 rfl (RowL.cell r193 rfl))) rfl rfl rfl ?_
    refine LL.val (R.gtF rfl rfl rfl (by omega)) rfl rfl rfl ?_
    refine LL.nilS ?_
    refine CC.no rfl ?_
    refine CC.skip ?_
    refine EE.thenN ?_
    refine CC.seq ?_
    refine CC.region ?_
    refine LL.val (R.move rfl rfl) rfl rfl rfl ?_
    refine LL.val (R.convI rfl rfl rfl rfl (wrapU (by omega) (by omega))) rfl rfl rfl ?_
    refine LL.val (R.buildV rfl rfl (v := .agg #[Value.int IntKind.i64 1, Value.int IntKind.u64 ↑blk]) (fun _ => by kernel_rfl)) rfl rfl rfl ?_
    have l677 := r193.lt
    have l678 := r526.lt
    refine LL.lit (e := 68) [Value.int IntKind.i64 1, Value.int IntKind.u64 ↑blk] 1 rfl rfl (fun _ => by kernel_rfl) rfl rfl ?_
    intro W680 g681 eg681 r682 z683 b679
    replace b523 := b523.trans (b679.mono b523.size)
    replace b503 := b503.trans (b679.mono b503.size)
    replace b190 := b190.trans (b679.mono b190.size)
    replace b127 := b127.trans (b679.mono b127.size)
    replace q1 := q1.trans (b679.mono q1.size)
    replace b57 := b57.trans (b679.mono b57.size)
    replace q := q.trans (b679.mono q.size)
    replace r193 := r193.up b679
    replace r526 := r526.up b679
    refine LL.val (R.assign rfl rfl) rfl rfl rfl ?_
    refine LL.nilS ?_
    refine CC.seq ?_
    refine CC.seq ?_
    refine CC.region ?_
    refine LL.val (R.field rfl rfl (I.fld rfl)) rfl rfl rfl ?_
    refine LL.val (R.load rfl rfl (I.ld1 rfl (RowL.cell r193 rfl))) rfl rfl rfl ?_
    refine LL.val (R.len rfl rfl rfl rfl) rfl rfl rfl ?_
    refine LL.val (R.subNc rfl rfl rfl rfl (by omega) (by omega)) rfl rfl rfl ?_
    refine LL.val (R.assign rfl rfl) rfl rfl rfl ?_
    refine LL.nilS ?_
    refine CC.block ?_
    have oa : OwnsT pE 2 W680 (g525 + 1) 68 (.slice (some ⟨g681, 0, none⟩) 1 1) (splN blk N 0) := RowL.ownsT (ts := splN blk N 0) pEnc r682 (by omega) (by simp [maxLen, splN])
    have lgg : w.heap.size ≤ g525 := by omega
    refine CC.loop (α := Nat × Value) (fun s => [(10, .int .i64 ((N / 2 : Nat) : Int)), (11, .pointer (some ⟨g525, 0, none⟩)), (12, s.2), (13, .int .i64 ((N - 1 - s.1 : Nat) : Int))]) (fun s W => s.1 ≤ N - N / 2 ∧ Below w.heap.size w W ∧ Below X1.heap.size X1 W ∧ RowL W g525 29 [.int .i64 l0, .int .i64 s1, .int .u64 k, .int .u64 9223372036854775808, .int .i64 0, .slice as1 (N - N / 2) cs1] ∧ OwnsT pE 2 W (g525 + 1) 68 s.2 (splN blk N s.1)) (fun s => N - s.1) (0, .slice (some ⟨g681, 0, none⟩) 1 1) ⟨rfl, rfl, rfl, rfl, trivial⟩ ⟨Nat.zero_le _, q, q1, r526, oa⟩ ?_
    have lgx : X1.heap.size ≤ g525 := by omega
    clear q q1 r526 oa r682 hcb hsl
    rintro ⟨t, v⟩ W ⟨ht, q, q1, ra, oa⟩
    simp only at ht oa
    show CC none Try.prog _ 94 [] (sl [(10, .int .i64 ((N / 2 : Nat) : Int)), (11, .pointer (some ⟨g525, 0, none⟩)), (12, v), (13, .int .i64 ((N - 1 - t : Nat) : Int))]) _ W
    obtain ⟨a3, c3, rfl, hc3⟩ := (oa.reads pEnc).form (splN_len _ _ t)
    have lw := q.size
    have lx := q1.size
    have hw1 : IntKind.u64.wrap (s1 : Int) = (s1 : Int) := by
      rw [IntKind.wrap_u64]
      omega
    have hw0 : IntKind.u64.wrap (0 : Int) = ((0 : Nat) : Int) := by
      rw [IntKind.wrap_u64]
      rfl
    have ht2 : N / 2 ≤ N - 1 - t ↔ t < N - N / 2 := by omega
    by_cases hlt : t < N - N / 2
    case neg =>
      obtain rfl : t = N - N / 2 := by omega
      refine CC.seq ?_
      refine CC.seq ?_
      refine CC.region ?_
      refine LL.val (R.move rfl rfl) rfl rfl rfl ?_
      refine LL.val (R.move rfl rfl) rfl rfl rfl ?_
      refine LL.val (R.geF rfl rfl rfl (by omega)) rfl rfl rfl ?_
      refine LL.nilS ?_
      refine CC.no rfl ?_
      refine CC.exit ?_
      refine EE.thenX ?_
      refine EE.thenX ?_
      refine EE.inX ?_
      refine EE.thenN ?_
      refine CC.seq ?_
      refine CC.region ?_
      refine LL.val (R.load rfl rfl (I.ldNc (vs := [Value.int IntKind.i64 ↑l0, Value.int IntKind.i64 ↑s1, Value.int IntKind.u64 ↑k, Value.int IntKind.u64 9223372036854775808, Value.int IntKind.i64 0, Value.slice as1 (N - N / 2) cs1]) (RowL.cells ra rfl) (by rfl) (by rfl))) rfl rfl rfl ?_
      have la37 := ra.lt
      (refine LL.call (R.call rfl rfl rfl) rfl rfl rfl (rwords_any l0 (s1 : Int) s1 k 9223372036854775808 0 0 (ps.drop (N / 2)) _ _ (hsl2 _ (hpF _ q1)) hl0 (by rw [List.length_drop]; omega) hw1 hw0) ?_; rintro e Wa36 ⟨g8, rfl, r8, hg8, ba33⟩; refine ⟨_, rfl, ?_⟩)
      have zba33 := ba33.size
      replace q := q.trans (ba33.mono q.size)
      replace q1 := q1.trans (ba33.mono q1.size)
      replace ra := ra.up ba33
      replace oa := oa.up ba33
      refine LL.val (R.move rfl rfl) rfl rfl rfl ?_
      refine LL.val (R.assign rfl rfl) rfl rfl rfl ?_
      refine LL.val (R.assign rfl rfl) rfl rfl rfl ?_
      refine LL.val (R.assign rfl rfl) rfl rfl rfl ?_
      refine LL.nilS ?_
      refine CC.ret ?_
      refine EE.ret _ rfl rfl ?_
      exact ⟨_, _, rfl, by assumption, OwnsT.lower (by assumption) (by omega), by omega, q⟩
    have e3 := splN_succ blk N t
    have hsl := splN_len blk N t
    rw [show 8 + ((2 * (N - 1 - t) : Nat) : Int) + 1 = 9 + 2 * ((N - 1 - t : Nat) : Int) by omega] at e3
    refine CC.seq ?_
    refine CC.seq ?_
    refine CC.region ?_
    refine LL.val (R.move rfl rfl) rfl rfl rfl ?_
    refine LL.val (R.move rfl rfl) rfl rfl rfl ?_
    refine LL.val (R.geT rfl rfl rfl (by omega)) rfl rfl rfl ?_
    refine LL.nilS ?_
    refine CC.yes rfl ?_
    refine CC.skip ?_
    refine EE.thenN ?_
    refine CC.seq ?_
    refine CC.block ?_
    refine CC.region ?_
    refine LL.val (R.move rfl rfl) rfl rfl rfl ?_
    refine LL.val (R.move rfl rfl) rfl rfl rfl ?_
    refine LL.val (R.mulcN rfl rfl rfl rfl (by omega)) rfl rfl rfl ?_
    refine LL.val (R.addI rfl rfl rfl (by omega)) rfl rfl rfl ?_
    refine LL.val (R.buildV rfl rfl (v := .agg #[Value.int IntKind.i64 (9 + ↑(2 * (N - 1 - t))), Value.int IntKind.u64 0]) (fun _ => by kernel_rfl)) rfl rfl rfl ?_
    have lb1 := ra.lt
    refine LL.lit (e := 68) [Value.int IntKind.i64 (9 + ↑(2 * (N - 1 - t))), Value.int IntKind.u64 0] 1 rfl rfl (fun _ => by kernel_rfl) rfl rfl ?_
    intro Wb3 gb4 egb4 rb5 zb6 bb2
    replace q := q.trans (bb2.mono q.size)
    replace q1 := q1.trans (bb2.mono q1.size)
    replace ra := ra.up bb2
    replace oa := oa.up bb2
    (refine LL.appendT2 rfl rfl pEnc ElPut oa (us := [((9 + 2 * ((N - 1 - t : Nat) : Int) : Int), 0)]) (RowL.readsT pEnc (ts := [((9 + 2 * ((N - 1 - t : Nat) : Int) : Int), 0)]) (by assumption) 1 (Nat.le_refl _)) (by simp [maxLen]; omega) (by simp; omega) (by omega) rfl rfl ?_; intro v' Wz ob gra hva; replace q := q.grown gra q.size (fun g hg => by have := own_ge oa g hg; omega); replace q1 := q1.grown gra q1.size (fun g hg => by have := own_ge oa g hg; omega); replace ra := ra.grO gra (own_ne oa (by omega)); clear oa hva gra; rw [← e3] at ob)
    refine LL.val (R.assign rfl rfl) rfl rfl rfl ?_
    refine LL.nil ?_
    refine EE.inN ?_
    refine EE.thenN ?_
    refine CC.region ?_
    refine LL.val (R.move rfl rfl) rfl rfl rfl ?_
    refine LL.val (R.subNc rfl rfl rfl rfl (by omega) (by omega)) rfl rfl rfl ?_
    refine LL.val (R.assign rfl rfl) rfl rfl rfl ?_
    refine LL.nil ?_
    exact EE.round (t + 1, _) ⟨rfl, rfl, rfl, rfl, trivial⟩ ⟨by show t + 1 ≤ N - N / 2; omega, q, q1, ra, ob⟩ (by show N - (t + 1) < N - t; omega)
  case neg =>
    rw [if_neg h0, if_neg h0]
    have h0' : 0 < l0 := by omega
    refine X.fn Try.func19 rfl (n := 94) rfl rfl ?_
    refine CC.seq ?_
    refine CC.region ?_
    refine LL.val (R.assign rfl rfl) rfl rfl rfl ?_
    refine LL.val (R.assign rfl rfl) rfl rfl rfl ?_
    refine LL.val (R.assign rfl rfl) rfl rfl rfl ?_
    refine LL.nilS ?_
    refine CC.seq ?_
    refine CC.seq ?_
    refine CC.region ?_
    refine LL.val (R.move rfl rfl) rfl rfl rfl ?_
    (refine LL.call (R.call rfl rfl rfl) rfl rfl rfl (hck _ q) ?_; rintro e Wc60 ⟨rfl, bc57⟩; refine ⟨_, rfl, ?_⟩)
    have zbc57 := bc57.size
    replace q := q.trans (bc57.mono q.size)
    refine LL.val (R.assign rfl rfl) rfl rfl rfl ?_
    refine LL.nilS ?_
    refine CC.seq ?_
    refine CC.region ?_
    refine LL.val (R.move rfl rfl) rfl rfl rfl ?_
    refine LL.val (R.neF rfl rfl rfl (by omega)) rfl rfl rfl ?_
    refine LL.nilS ?_
    refine CC.no rfl ?_
    refine CC.skip ?_
    refine EE.thenN ?_
    refine CC.seq ?_
    refine CC.region ?_
    refine LL.val (R.move rfl rfl) rfl rfl rfl ?_
    (refine LL.call (R.call rfl rfl rfl) rfl rfl rfl (hof _ q) ?_; rintro e Wc130 ⟨⟨vo, rfl, oo⟩, bc127⟩; refine ⟨_, rfl, ?_⟩; obtain ⟨ao, co, rfl, hco⟩ := (oo.reads prEnc).form hN; obtain ⟨b1, o1, rfl, lb1, _⟩ := (oo.reads prEnc).get prEnc hx; obtain ⟨as1, cs1, hsl1, hsl2⟩ := hsl (N / 2) _ _ _ (by omega) (oo.reads prEnc); obtain ⟨as2, cs2, hsm1, hsm2⟩ := hsl (N / 2 + 1) _ _ _ (by omega) (oo.reads prEnc); obtain ⟨X1, hzX1, hpF, q1⟩ := exposeT (oo.reads prEnc); have zX1 := q1.size; clear oo; have cm0 := fun X (b : Below X1.heap.size X1 X) => (((hpF X b).elemN prEnc hx).at'.at (j := 0) rfl : X.cell? ⟨b1, o1 + N / 2 * 2 + 0, none⟩ = some (.int .u64 (k : Int))); have cm1 := fun X (b : Below X1.heap.size X1 X) => (((hpF X b).elemN prEnc hx).at'.at (j := 1) rfl : X.cell? ⟨b1, o1 + N / 2 * 2 + 1, none⟩ = some (.int .u64 (p : Int))))
    have zbc127 := bc127.size
    replace bc57 := bc57.trans (bc127.mono bc57.size)
    replace q := q.trans (bc127.mono q.size)
    refine LL.val (R.move rfl rfl) rfl rfl rfl ?_
    refine LL.val (R.extract rfl rfl rfl) rfl rfl rfl ?_
    refine LL.val (R.extract rfl rfl rfl) rfl rfl rfl ?_
    refine LL.alloc ([Value.int IntKind.i64 0, Value.int IntKind.i64 0, Value.int IntKind.u64 0, Value.int IntKind.u64 0, Value.int IntKind.i64 0, Value.slice none 0 0]) rfl rfl rfl rfl rfl ?_
    intro Wc191 gc192 egc192 rc193 zc194 bc190
    replace bc127 := bc127.trans (bc190.mono bc127.size)
    replace q1 := q1.trans (bc190.mono q1.size)
    replace bc57 := bc57.trans (bc190.mono bc57.size)
    replace q := q.trans (bc190.mono q.size)
    refine LL.storeN (vs := [Value.int IntKind.i64 ↑l0, Value.int IntKind.i64 ↑s1, Value.int IntKind.u64 ↑lo, Value.int IntKind.u64 ↑le, Value.int IntKind.i64 ↑wy, Value.slice (some { block := b1, off := o1 }) N co]) rfl rfl rfl rfl rc193 (by exact Nat.le_of_ble_eq_true rfl) (ones_of rfl) rfl rfl ?_
    intro Wc212 rc213 bc211 zc214
    have hlbc211 := rc193.lt
    replace rc213 : RowL Wc212 _ 29 [Value.int IntKind.i64 ↑l0, Value.int IntKind.i64 ↑s1, Value.int IntKind.u64 ↑lo, Value.int IntKind.u64 ↑le, Value.int IntKind.i64 ↑wy, Value.slice (some { block := b1, off := o1 }) N co] := rc213
    clear rc193
    replace bc190 := bc190.grown bc211 bc190.size (by rintro k ⟨⟩; omega)
    replace bc127 := bc127.grown bc211 bc127.size (by rintro k ⟨⟩; omega)
    replace q1 := q1.grown bc211 q1.size (by rintro k ⟨⟩; omega)
    replace bc57 := bc57.grown bc211 bc57.size (by rintro k ⟨⟩; omega)
    replace q := q.grown bc211 q.size (by rintro k ⟨⟩; omega)
    have rc193 := rc213
    clear rc213
    refine LL.val (R.assign rfl rfl) rfl rfl rfl ?_
    refine LL.nilS ?_
    refine CC.seq ?_
    refine CC.seq ?_
    refine CC.region ?_
    refine LL.val (R.move rfl rfl) rfl rfl rfl ?_
    refine LL.val (R.ltF rfl rfl rfl (by omega)) rfl rfl rfl ?_
    refine LL.val (R.move rfl rfl) rfl rfl rfl ?_
    refine LL.val (R.move rfl rfl) rfl rfl rfl ?_
    refine LL.val (R.gtF rfl rfl rfl (by omega)) rfl rfl rfl ?_
    refine LL.val (R.pick rfl rfl rfl) rfl rfl rfl ?_
    refine LL.val (R.move rfl rfl) rfl rfl rfl ?_
    refine LL.val (R.field rfl rfl (I.fld rfl)) rfl rfl rfl ?_
    refine LL.val (R.load rfl rfl (I.ld1 rfl (RowL.cell rc193 rfl))) rfl rfl rfl ?_
    refine LL.val (R.len rfl rfl rfl rfl) rfl rfl rfl ?_
    refine LL.val (R.ltF rfl rfl rfl (by omega)) rfl rfl rfl ?_
    refine LL.val (R.pick rfl rfl rfl) rfl rfl rfl ?_
    refine LL.nilS ?_
    refine CC.no rfl ?_
    refine CC.skip ?_
    refine EE.thenN ?_
    refine CC.seq ?_
    refine CC.region ?_
    refine LL.val (R.field rfl rfl (I.fld rfl)) rfl rfl rfl ?_
    refine LL.val (R.load rfl rfl (I.ld1 rfl (RowL.cell rc193 rfl))) rfl rfl rfl ?_
    refine LL.val (R.len rfl rfl rfl rfl) rfl rfl rfl ?_
    refine LL.val (R.quoNc rfl rfl rfl rfl (by omega) (by omega)) rfl rfl rfl ?_
    refine LL.val (R.assign rfl rfl) rfl rfl rfl ?_
    refine LL.nilS ?_
    refine CC.seq ?_
    refine CC.freeZ (fun W_ j => j < W_.heap.size ∧ (True)) (by kernel_rfl) (by kernel_rfl) (fun Wc504 bc503 zc505 => ?_)
    replace bc190 := bc190.trans (bc503.mono bc190.size)
    replace bc127 := bc127.trans (bc503.mono bc127.size)
    replace q1 := q1.trans (bc503.mono q1.size)
    replace bc57 := bc57.trans (bc503.mono bc57.size)
    replace q := q.trans (bc503.mono q.size)
    replace rc193 := rc193.up bc503
    have hok : Kept (fun j => j < Wc504.heap.size ∧ (True)) Wc504 Wc504 := Kept.refl _ _
    have fzrc193 := fzRow (K := fun j => j < Wc504.heap.size ∧ (True)) rc193 ⟨rc193.lt, (by first | trivial | omega)⟩
    refine AA.pure 0 rfl hok (by kernel_rfl) (fun w' b' => R.field rfl rfl (I.fld rfl)) rfl rfl ?_
    refine AA.pure 1 rfl hok (by kernel_rfl) (fun w' b' => R.load rfl rfl (I.ld1 rfl (RowL.cell (fzrc193 w' b') rfl))) rfl rfl ?_
    refine AA.pure 2 rfl hok (by kernel_rfl) (fun w' b' => R.field rfl rfl (I.fld rfl)) rfl rfl ?_
    refine AA.pure 3 rfl hok (by kernel_rfl) (fun w' b' => R.load rfl rfl (I.ld1 rfl (RowL.cell (fzrc193 w' b') rfl))) rfl rfl ?_
    refine AA.pure 4 rfl hok (by kernel_rfl) (fun w' b' => R.field rfl rfl (I.fld rfl)) rfl rfl ?_
    refine AA.pure 5 rfl hok (by kernel_rfl) (fun w' b' => R.load rfl rfl (I.ld1 rfl (RowL.cell (fzrc193 w' b') rfl))) rfl rfl ?_
    refine AA.pure 6 rfl hok (by kernel_rfl) (fun w' b' => R.move rfl rfl) rfl rfl ?_
    refine AA.pure 7 rfl hok (by kernel_rfl) (fun w' b' => R.index rfl rfl rfl (I.ixS rfl (by omega))) rfl rfl ?_
    refine AA.pure 8 rfl hok (by kernel_rfl) (fun w' b' => R.field rfl rfl (I.fld rfl)) rfl rfl ?_
    refine AA.pure 9 rfl hok (by kernel_rfl) (fun w' b' => R.load rfl rfl (I.ld1 rfl (cell_kept (cm0 _ q1) b' ⟨by have := q1.size; omega, trivial⟩))) rfl rfl ?_
    refine AA.pure 10 rfl hok (by kernel_rfl) (fun w' b' => R.field rfl rfl (I.fld rfl)) rfl rfl ?_
    refine AA.pure 11 rfl hok (by kernel_rfl) (fun w' b' => R.load rfl rfl (I.ld1 rfl (RowL.cell (fzrc193 w' b') rfl))) rfl rfl ?_
    refine AA.pure 12 rfl hok (by kernel_rfl) (fun w' b' => R.move rfl rfl) rfl rfl ?_
    refine AA.pure 13 rfl hok (by kernel_rfl) (fun w' b' => R.slice rfl rfl rfl rfl rfl (hsl1 _ _ _ _ rfl)) rfl rfl ?_
    refine AA.pure 14 rfl hok (by kernel_rfl) (fun w' b' => R.buildV rfl rfl (v := .agg #[Value.int IntKind.i64 ↑l0, Value.int IntKind.i64 ↑s1, Value.int IntKind.u64 ↑k, Value.int IntKind.u64 9223372036854775808, Value.int IntKind.i64 0, Value.slice as1 (N - N / 2) cs1]) (fun _ => by kernel_rfl)) rfl rfl ?_
    refine AA.one 15 (by kernel_rfl) ?_
    have lc522 := rc193.lt
    refine ZR.alloc ([Value.int IntKind.i64 0, Value.int IntKind.i64 0, Value.int IntKind.u64 0, Value.int IntKind.u64 0, Value.int IntKind.i64 0, Value.slice none 0 0]) rfl rfl rfl rfl rfl rfl ?_
    intro Wc524 gc525 egc525 rc526 zc527 bc523
    replace bc503 := bc503.trans (bc523.mono bc503.size)
    replace bc190 := bc190.trans (bc523.mono bc190.size)
    replace bc127 := bc127.trans (bc523.mono bc127.size)
    replace q1 := q1.trans (bc523.mono q1.size)
    replace bc57 := bc57.trans (bc523.mono bc57.size)
    replace q := q.trans (bc523.mono q.size)
    replace rc193 := rc193.up bc523
    replace hok := hok.trans (bkept bc523 (fun j h => by have := h.1; have := hok.size; omega))
    have yc528 := hok.size
    refine ⟨hok, ?_⟩
    refine AA.one 16 (by kernel_rfl) ?_
    refine ZR.storeN (vs := [Value.int IntKind.i64 ↑l0, Value.int IntKind.i64 ↑s1, Value.int IntKind.u64 ↑k, Value.int IntKind.u64 9223372036854775808, Value.int IntKind.i64 0, Value.slice as1 (N - N / 2) cs1]) rfl rfl rfl rfl rfl rc526 (by exact Nat.le_of_ble_eq_true rfl) (ones_of rfl) rfl rfl ?_
    intro Wc548 rc549 bc547 zc550
    have hlbc547 := rc526.lt
    replace rc549 : RowL Wc548 _ 29 [Value.int IntKind.i64 ↑l0, Value.int IntKind.i64 ↑s1, Value.int IntKind.u64 ↑k, Value.int IntKind.u64 9223372036854775808, Value.int IntKind.i64 0, Value.slice as1 (N - N / 2) cs1] := rc549
    clear rc526
    replace bc523 := bc523.grown bc547 bc523.size (by rintro k ⟨⟩; omega)
    replace bc503 := bc503.grown bc547 bc503.size (by rintro k ⟨⟩; omega)
    replace bc190 := bc190.grown bc547 bc190.size (by rintro k ⟨⟩; omega)
    replace bc127 := bc127.grown bc547 bc127.size (by rintro k ⟨⟩; omega)
    replace q1 := q1.grown bc547 q1.size (by rintro k ⟨⟩; omega)
    replace bc57 := bc57.grown bc547 bc57.size (by rintro k ⟨⟩; omega)
    replace q := q.grown bc547 q.size (by rintro k ⟨⟩; omega)
    replace rc193 := rc193.gr bc547 (by have := rc193.lt; omega)
    replace hok := hok.trans (grown_kept bc547 (fun j h => by have := h.1; have := hok.size; omega) (fun j h e => by cases e; have h2 := h.1; have h3 := h.2; omega))
    have rc526 := rc549
    clear rc549
    refine ⟨hok, ?_⟩
    refine AA.done rfl ?_
    clear fzrc193 hok
    refine EE.thenN ?_
    refine CC.seq ?_
    refine CC.seq ?_
    refine CC.region ?_
    refine LL.val (R.field rfl rfl (I.fld rfl)) rfl rfl rfl ?_
    refine LL.val (R.load rfl rfl (I.ld1 rfl (RowL.cell rc193 rfl))) rfl rfl rfl ?_
    refine LL.val (R.gtT rfl rfl rfl (by omega)) rfl rfl rfl ?_
    refine LL.nilS ?_
    refine CC.yes rfl ?_
    refine CC.freeZ (fun W_ j => j < W_.heap.size ∧ (j ≠ gc525)) (by kernel_rfl) (by kernel_rfl) (fun Wc606 bc605 zc607 => ?_)
    replace bc523 := bc523.trans (bc605.mono bc523.size)
    replace bc503 := bc503.trans (bc605.mono bc503.size)
    replace bc190 := bc190.trans (bc605.mono bc190.size)
    replace bc127 := bc127.trans (bc605.mono bc127.size)
    replace q1 := q1.trans (bc605.mono q1.size)
    replace bc57 := bc57.trans (bc605.mono bc57.size)
    replace q := q.trans (bc605.mono q.size)
    replace rc193 := rc193.up bc605
    replace rc526 := rc526.up bc605
    have hok : Kept (fun j => j < Wc606.heap.size ∧ (j ≠ gc525)) Wc606 Wc606 := Kept.refl _ _
    have fzrc193 := fzRow (K := fun j => j < Wc606.heap.size ∧ (j ≠ gc525)) rc193 ⟨rc193.lt, (by first | trivial | omega)⟩
    refine AA.pure 0 rfl hok (by kernel_rfl) (fun w' b' => R.field rfl rfl (I.fld rfl)) rfl rfl ?_
    refine AA.pure 1 rfl hok (by kernel_rfl) (fun w' b' => R.load rfl rfl (I.ld1 rfl (RowL.cell (fzrc193 w' b') rfl))) rfl rfl ?_
    refine AA.pure 2 rfl hok (by kernel_rfl) (fun w' b' => R.move rfl rfl) rfl rfl ?_
    refine AA.pure 3 rfl hok (by kernel_rfl) (fun w' b' => R.index rfl rfl rfl (I.ixS rfl (by omega))) rfl rfl ?_
    refine AA.pure 4 rfl hok (by kernel_rfl) (fun w' b' => R.field rfl rfl (I.fld rfl)) rfl rfl ?_
    refine AA.pure 5 rfl hok (by kernel_rfl) (fun w' b' => R.load rfl rfl (I.ld1 rfl (cell_kept (cm1 _ q1) b' ⟨by have := q1.size; omega, by have := q1.size; omega⟩))) rfl rfl ?_
    refine AA.pure 6 rfl hok (by kernel_rfl) (fun w' b' => R.field rfl rfl (I.fld rfl)) rfl rfl ?_
    refine AA.pure 7 rfl hok (by kernel_rfl) (fun w' b' => R.load rfl rfl (I.ld1 rfl (RowL.cell (fzrc193 w' b') rfl))) rfl rfl ?_
    refine AA.pure 8 rfl hok (by kernel_rfl) (fun w' b' => R.move rfl rfl) rfl rfl ?_
    refine AA.pure 9 rfl hok (by kernel_rfl) (fun w' b' => R.addNc rfl rfl rfl rfl (by omega)) rfl rfl ?_
    refine AA.pure 10 rfl hok (by kernel_rfl) (fun w' b' => R.slice rfl rfl rfl rfl rfl (hsm1 _ _ _ _ rfl)) rfl rfl ?_
    refine AA.pure 11 rfl hok (by kernel_rfl) (fun w' b' => R.field rfl rfl (I.fld rfl)) rfl rfl ?_
    refine AA.one 12 (by kernel_rfl) ?_
    refine ZR.store rfl rfl rfl rfl rfl rc526 (by exact Nat.le_of_ble_eq_true rfl) rfl rfl rfl rfl ?_
    intro Wc627 rc628 bc626 zc629
    have hlbc626 := rc526.lt
    replace rc628 : RowL Wc627 _ 29 [Value.int IntKind.i64 ↑l0, Value.int IntKind.i64 ↑s1, Value.int IntKind.u64 ↑k, Value.int IntKind.u64 ↑p, Value.int IntKind.i64 0, Value.slice as1 (N - N / 2) cs1] := rc628
    clear rc526
    replace bc523 := bc523.grown bc626 bc523.size (by rintro k ⟨⟩; omega)
    replace bc503 := bc503.grown bc626 bc503.size (by rintro k ⟨⟩; omega)
    replace bc190 := bc190.grown bc626 bc190.size (by rintro k ⟨⟩; omega)
    replace bc127 := bc127.grown bc626 bc127.size (by rintro k ⟨⟩; omega)
    replace q1 := q1.grown bc626 q1.size (by rintro k ⟨⟩; omega)
    replace bc57 := bc57.grown bc626 bc57.size (by rintro k ⟨⟩; omega)
    replace q := q.grown bc626 q.size (by rintro k ⟨⟩; omega)
    replace rc193 := rc193.gr bc626 (by have := rc193.lt; omega)
    replace hok := hok.trans (grown_kept bc626 (fun j h => by have := h.1; have := hok.size; omega) (fun j h e => by cases e; have h2 := h.1; have h3 := h.2; omega))
    have rc526 := rc628
    clear rc628
    refine ⟨hok, ?_⟩
    refine AA.pure 13 rfl hok (by kernel_rfl) (fun w' b' => R.field rfl rfl (I.fld rfl)) rfl rfl ?_
    refine AA.one 14 (by kernel_rfl) ?_
    refine ZR.store rfl rfl rfl rfl rfl rc526 (by exact Nat.le_of_ble_eq_true rfl) rfl rfl rfl rfl ?_
    intro Wc649 rc650 bc648 zc651
    have hlbc648 := rc526.lt
    replace rc650 : RowL Wc649 _ 29 [Value.int IntKind.i64 ↑l0, Value.int IntKind.i64 ↑s1, Value.int IntKind.u64 ↑k, Value.int IntKind.u64 ↑p, Value.int IntKind.i64 0, Value.slice as2 (N - (N / 2 + 1)) cs2] := rc650
    clear rc526
    replace bc523 := bc523.grown bc648 bc523.size (by rintro k ⟨⟩; omega)
    replace bc503 := bc503.grown bc648 bc503.size (by rintro k ⟨⟩; omega)
    replace bc190 := bc190.grown bc648 bc190.size (by rintro k ⟨⟩; omega)
    replace bc127 := bc127.grown bc648 bc127.size (by rintro k ⟨⟩; omega)
    replace q1 := q1.grown bc648 q1.size (by rintro k ⟨⟩; omega)
    replace bc57 := bc57.grown bc648 bc57.size (by rintro k ⟨⟩; omega)
    replace q := q.grown bc648 q.size (by rintro k ⟨⟩; omega)
    replace rc193 := rc193.gr bc648 (by have := rc193.lt; omega)
    replace hok := hok.trans (grown_kept bc648 (fun j h => by have := h.1; have := hok.size; omega) (fun j h e => by cases e; have h2 := h.1; have h3 := h.2; omega))
    have rc526 := rc650
    clear rc650
    refine ⟨hok, ?_⟩
    refine AA.done rfl ?_
    clear fzrc193 hok
    refine EE.thenN ?_
    refine CC.seq ?_
    refine CC.region ?_
    refine LL.val (R.move rfl rfl) rfl rfl rfl ?_
    refine LL.val (R.convI rfl rfl rfl rfl (wrapU (by omega) (by omega))) rfl rfl rfl ?_
    refine LL.val (R.buildV rfl rfl (v := .agg #[Value.int IntKind.i64 1, Value.int IntKind.u64 ↑blk]) (fun _ => by kernel_rfl)) rfl rfl rfl ?_
    have lc724 := rc193.lt
    have lc725 := rc526.lt
    refine LL.lit (e := 68) [Value.int IntKind.i64 1, Value.int IntKind.u64 ↑blk] 1 rfl rfl (fun _ => by kernel_rfl) rfl rfl ?_
    intro Wc727 gc728 egc728 rc729 zc730 bc726
    replace bc523 := bc523.trans (bc726.mono bc523.size)
    replace bc503 := bc503.trans (bc726.mono bc503.size)
    replace bc190 := bc190.trans (bc726.mono bc190.size)
    replace bc127 := bc127.trans (bc726.mono bc127.size)
    replace q1 := q1.trans (bc726.mono q1.size)
    replace bc57 := bc57.trans (bc726.mono bc57.size)
    replace q := q.trans (bc726.mono q.size)
    replace rc193 := rc193.up bc726
    replace rc526 := rc526.up bc726
    refine LL.val (R.assign rfl rfl) rfl rfl rfl ?_
    refine LL.nilS ?_
    refine CC.seq ?_
    refine CC.seq ?_
    refine CC.region ?_
    refine LL.val (R.field rfl rfl (I.fld rfl)) rfl rfl rfl ?_
    refine LL.val (R.load rfl rfl (I.ld1 rfl (RowL.cell rc193 rfl))) rfl rfl rfl ?_
    refine LL.val (R.len rfl rfl rfl rfl) rfl rfl rfl ?_
    refine LL.val (R.subNc rfl rfl rfl rfl (by omega) (by omega)) rfl rfl rfl ?_
    refine LL.val (R.assign rfl rfl) rfl rfl rfl ?_
    refine LL.nilS ?_
    refine CC.block ?_
    have oa : OwnsT pE 2 Wc727 (gc525 + 1) 68 (.slice (some ⟨gc728, 0, none⟩) 1 1) (splN blk N 0) := RowL.ownsT (ts := splN blk N 0) pEnc rc729 (by omega) (by simp [maxLen, splN])
    have lgg : w.heap.size ≤ gc525 := by omega
    refine CC.loop (α := Nat × Value) (fun s => [(10, .int .i64 ((N / 2 : Nat) : Int)), (11, .pointer (some ⟨gc525, 0, none⟩)), (12, s.2), (13, .int .i64 ((N - 1 - s.1 : Nat) : Int))]) (fun s W => s.1 ≤ N - N / 2 ∧ Below w.heap.size w W ∧ Below X1.heap.size X1 W ∧ RowL W gc525 29 [.int .i64 l0, .int .i64 s1, .int .u64 k, .int .u64 p, .int .i64 0, .slice as2 (N - (N / 2 + 1)) cs2] ∧ OwnsT pE 2 W (gc525 + 1) 68 s.2 (splN blk N s.1)) (fun s => N - s.1) (0, .slice (some ⟨gc728, 0, none⟩) 1 1) ⟨rfl, rfl, rfl, rfl, trivial⟩ ⟨Nat.zero_le _, q, q1, rc526, oa⟩ ?_
    have lgx : X1.heap.size ≤ gc525 := by omega
    clear q q1 rc526 oa rc729 hcb hsl
    rintro ⟨t, v⟩ W ⟨ht, q, q1, ra, oa⟩
    simp only at ht oa
    show CC none Try.prog _ 94 [] (sl [(10, .int .i64 ((N / 2 : Nat) : Int)), (11, .pointer (some ⟨gc525, 0, none⟩)), (12, v), (13, .int .i64 ((N - 1 - t : Nat) : Int))]) _ W
    obtain ⟨a3, c3, rfl, hc3⟩ := (oa.reads pEnc).form (splN_len _ _ t)
    have lw := q.size
    have lx := q1.size
    have hw1 : IntKind.u64.wrap (s1 : Int) = (s1 : Int) := by
      rw [IntKind.wrap_u64]
      omega
    have hw0 : IntKind.u64.wrap (0 : Int) = ((0 : Nat) : Int) := by
      rw [IntKind.wrap_u64]
      rfl
    have ht2 : N / 2 ≤ N - 1 - t ↔ t < N - N / 2 := by omega
    by_cases hlt : t < N - N / 2
    case neg =>
      obtain rfl : t = N - N / 2 := by omega
      refine CC.seq ?_
      refine CC.seq ?_
      refine CC.region ?_
      refine LL.val (R.move rfl rfl) rfl rfl rfl ?_
      refine LL.val (R.move rfl rfl) rfl rfl rfl ?_
      refine LL.val (R.geF rfl rfl rfl (by omega)) rfl rfl rfl ?_
      refine LL.nilS ?_
      refine CC.no rfl ?_
      refine CC.exit ?_
      refine EE.thenX ?_
      refine EE.thenX ?_
      refine EE.inX ?_
      refine EE.thenN ?_
      refine CC.seq ?_
      refine CC.region ?_
      refine LL.val (R.load rfl rfl (I.ldNc (vs := [Value.int IntKind.i64 ↑l0, Value.int IntKind.i64 ↑s1, Value.int IntKind.u64 ↑k, Value.int IntKind.u64 ↑p, Value.int IntKind.i64 0, Value.slice as2 (N - (N / 2 + 1)) cs2]) (RowL.cells ra rfl) (by rfl) (by rfl))) rfl rfl rfl ?_
      have ld37 := ra.lt
      (refine LL.call (R.call rfl rfl rfl) rfl rfl rfl (rwords_any l0 (s1 : Int) s1 k p 0 0 (ps.drop (N / 2 + 1)) _ _ (hsm2 _ (hpF _ q1)) hl0 (by rw [List.length_drop]; omega) hw1 hw0) ?_; rintro e Wd36 ⟨g8, rfl, r8, hg8, bd33⟩; refine ⟨_, rfl, ?_⟩)
      have zbd33 := bd33.size
      replace q := q.trans (bd33.mono q.size)
      replace q1 := q1.trans (bd33.mono q1.size)
      replace ra := ra.up bd33
      replace oa := oa.up bd33
      refine LL.val (R.move rfl rfl) rfl rfl rfl ?_
      refine LL.val (R.assign rfl rfl) rfl rfl rfl ?_
      refine LL.val (R.assign rfl rfl) rfl rfl rfl ?_
      refine LL.val (R.assign rfl rfl) rfl rfl rfl ?_
      refine LL.nilS ?_
      refine CC.ret ?_
      refine EE.ret _ rfl rfl ?_
      exact ⟨_, _, rfl, by assumption, OwnsT.lower (by assumption) (by omega), by omega, q⟩
    have e3 := splN_succ blk N t
    have hsl := splN_len blk N t
    rw [show 8 + ((2 * (N - 1 - t) : Nat) : Int) + 1 = 9 + 2 * ((N - 1 - t : Nat) : Int) by omega] at e3
    refine CC.seq ?_
    refine CC.seq ?_
    refine CC.region ?_
    refine LL.val (R.move rfl rfl) rfl rfl rfl ?_
    refine LL.val (R.move rfl rfl) rfl rfl rfl ?_
    refine LL.val (R.geT rfl rfl rfl (by omega)) rfl rfl rfl ?_
    refine LL.nilS ?_
    refine CC.yes rfl ?_
    refine CC.skip ?_
    refine EE.thenN ?_
    refine CC.seq ?_
    refine CC.block ?_
    refine CC.region ?_
    refine LL.val (R.move rfl rfl) rfl rfl rfl ?_
    refine LL.val (R.move rfl rfl) rfl rfl rfl ?_
    refine LL.val (R.mulcN rfl rfl rfl rfl (by omega)) rfl rfl rfl ?_
    refine LL.val (R.addI rfl rfl rfl (by omega)) rfl rfl rfl ?_
    refine LL.val (R.buildV rfl rfl (v := .agg #[Value.int IntKind.i64 (9 + ↑(2 * (N - 1 - t))), Value.int IntKind.u64 0]) (fun _ => by kernel_rfl)) rfl rfl rfl ?_
    have le1 := ra.lt
    refine LL.lit (e := 68) [Value.int IntKind.i64 (9 + ↑(2 * (N - 1 - t))), Value.int IntKind.u64 0] 1 rfl rfl (fun _ => by kernel_rfl) rfl rfl ?_
    intro We3 ge4 ege4 re5 ze6 be2
    replace q := q.trans (be2.mono q.size)
    replace q1 := q1.trans (be2.mono q1.size)
    replace ra := ra.up be2
    replace oa := oa.up be2
    (refine LL.appendT2 rfl rfl pEnc ElPut oa (us := [((9 + 2 * ((N - 1 - t : Nat) : Int) : Int), 0)]) (RowL.readsT pEnc (ts := [((9 + 2 * ((N - 1 - t : Nat) : Int) : Int), 0)]) (by assumption) 1 (Nat.le_refl _)) (by simp [maxLen]; omega) (by simp; omega) (by omega) rfl rfl ?_; intro v' Wz ob gra hva; replace q := q.grown gra q.size (fun g hg => by have := own_ge oa g hg; omega); replace q1 := q1.grown gra q1.size (fun g hg => by have := own_ge oa g hg; omega); replace ra := ra.grO gra (own_ne oa (by omega)); clear oa hva gra; rw [← e3] at ob)
    refine LL.val (R.assign rfl rfl) rfl rfl rfl ?_
    refine LL.nil ?_
    refine EE.inN ?_
    refine EE.thenN ?_
    refine CC.region ?_
    refine LL.val (R.move rfl rfl) rfl rfl rfl ?_
    refine LL.val (R.subNc rfl rfl rfl rfl (by omega) (by omega)) rfl rfl rfl ?_
    refine LL.val (R.assign rfl rfl) rfl rfl rfl ?_
    refine LL.nil ?_
    exact EE.round (t + 1, _) ⟨rfl, rfl, rfl, rfl, trivial⟩ ⟨by show t + 1 ≤ N - N / 2; omega, q, q1, ra, ob⟩ (by show N - (t + 1) < N - t; omega)
end Go.Proofs.Ytfplilpefhhpnaa
/- node: Split's refusals (written by gennd9.py). -/
namespace Go.Proofs.Ytfplilpefhhpnaa
set_option linter.unusedVariables false
set_option linter.unusedSimpArgs false
open Go.RowKit Go.Shelf
set_option maxRecDepth 100000
set_option maxHeartbeats 8000000
theorem split_bad (n : Nat) (v : Value) (ws : List Nat) (w : World) (hv : ReadsT uE 1 w v ws) (hn : ws.length = n) (hb : ∀ x ∈ ws, x < 18446744073709551616) (blk : Int) (er : Nat) (he : er ≠ 0) (h : (¬nodeP ws ∧ er = 210) ∨ (nodeP ws ∧ ¬nodeS ws ∧ er = 190)) : Calls Try.prog 18 #[v, .int .i64 blk] w fun e w' => e = .returned (.tuple #[nilV, nilV, .int .i64 (er : Int)]) ∧ Below w.heap.size w w' := by
  have q := Below.refl w.heap.size w
  obtain ⟨a, c, rfl, hc⟩ := hv.form hn
  have hset : ∀ W, Below w.heap.size w W → Calls Try.prog 30 #[.slice a n c] W fun e w' => e = .returned (.tuple #[nzV, .int .i64 (er : Int)]) ∧ Below W.heap.size W w' := fun W b => (nsettled_any n _ ws W (hv.up b) hn hb).mono fun e w' g => by
    rcases h with ⟨h1, rfl⟩ | ⟨h1, h2, rfl⟩
    · exact ⟨g.2.1 h1, g.2.2.2⟩
    · exact ⟨g.2.2.1 h1 h2, g.2.2.2⟩
  have he' : (er : Int) ≠ 0 := by omega
  clear hv hb h
  refine X.fn Try.func18 rfl (n := 66) rfl rfl ?_
  refine CC.seq ?_
  refine CC.region ?_
  refine LL.val (R.assign rfl rfl) rfl rfl rfl ?_
  refine LL.val (R.assign rfl rfl) rfl rfl rfl ?_
  refine LL.val (R.assign rfl rfl) rfl rfl rfl ?_
  refine LL.nilS ?_
  refine CC.fwd (l := 0) (α := Unit) (fun _ => []) (fun _ => [(10, .int .i64 (er : Int))]) (fun _ W => Below w.heap.size w W) rfl ?first ?pass
  case pass =>
    rintro _ W q
    refine CC.seq ?_
    refine CC.skip ?_
    refine EE.thenN ?_
    refine CC.seq ?_
    refine CC.region ?_
    refine LL.val (R.move rfl rfl) rfl rfl rfl ?_
    refine LL.val (R.assign rfl rfl) rfl rfl rfl ?_
    refine LL.val (R.assign rfl rfl) rfl rfl rfl ?_
    refine LL.val (R.assign rfl rfl) rfl rfl rfl ?_
    refine LL.nilS ?_
    refine CC.ret ?_
    refine EE.jumpR ?_
    refine EE.ret _ rfl rfl ?_
    exact ⟨rfl, q⟩
  case first =>
    refine CC.seq ?_
    refine CC.region ?_
    refine LL.val (R.assign rfl rfl) rfl rfl rfl ?_
    refine LL.nilS ?_
    refine CC.seq ?_
    refine CC.region ?_
    refine LL.val (R.assign rfl rfl) rfl rfl rfl ?_
    refine LL.nilS ?_
    refine CC.seq ?_
    refine CC.region ?_
    refine LL.val (R.move rfl rfl) rfl rfl rfl ?_
    (refine LL.call (R.call rfl rfl rfl) rfl rfl rfl (hset _ q) ?_; rintro e Wb25 ⟨rfl, bb22⟩; refine ⟨_, rfl, ?_⟩)
    have zbb22 := bb22.size
    replace q := q.trans (bb22.mono q.size)
    refine LL.val (R.move rfl rfl) rfl rfl rfl ?_
    refine LL.val (R.extract rfl rfl rfl) rfl rfl rfl ?_
    refine LL.val (R.extract rfl rfl rfl) rfl rfl rfl ?_
    refine LL.alloc ([Value.int IntKind.i64 0, Value.int IntKind.i64 0, Value.int IntKind.u64 0, Value.int IntKind.u64 0, Value.int IntKind.i64 0, Value.slice none 0 0, Value.slice none 0 0]) rfl rfl rfl rfl rfl ?_
    intro Wb58 gb59 egb59 rb60 zb61 bb57
    replace bb22 := bb22.trans (bb57.mono bb22.size)
    replace q := q.trans (bb57.mono q.size)
    refine LL.storeN (vs := [Value.int IntKind.i64 0, Value.int IntKind.i64 0, Value.int IntKind.u64 ↑0, Value.int IntKind.u64 ↑0, Value.int IntKind.i64 0, nilV, nilV]) rfl rfl rfl rfl rb60 (by exact Nat.le_of_ble_eq_true rfl) (ones_of rfl) rfl rfl ?_
    intro Wb71 rb72 bb70 zb73
    have hlbb70 := rb60.lt
    replace rb72 : RowL Wb71 _ 70 [Value.int IntKind.i64 0, Value.int IntKind.i64 0, Value.int IntKind.u64 ↑0, Value.int IntKind.u64 ↑0, Value.int IntKind.i64 0, nilV, nilV] := rb72
    clear rb60
    replace bb57 := bb57.grown bb70 bb57.size (by rintro k ⟨⟩; omega)
    replace bb22 := bb22.grown bb70 bb22.size (by rintro k ⟨⟩; omega)
    replace q := q.grown bb70 q.size (by rintro k ⟨⟩; omega)
    have rb60 := rb72
    clear rb72
    refine LL.val (R.assign rfl rfl) rfl rfl rfl ?_
    refine LL.nilS ?_
    refine CC.seq ?_
    refine CC.seq ?_
    refine CC.region ?_
    refine LL.val (R.move rfl rfl) rfl rfl rfl ?_
    refine LL.val (R.neT rfl rfl rfl (by omega)) rfl rfl rfl ?_
    refine LL.nilS ?_
    refine CC.yes rfl ?_
    refine CC.goto ?_
    refine EE.thenG ?_
    (refine EE.jumpTo () rfl ?_ q; exact ⟨rfl, trivial⟩)
theorem split_arg (n : Nat) (v : Value) (ws : List Nat) (w : World) (hv : ReadsT uE 1 w v ws) (hn : ws.length = n) (hb : ∀ x ∈ ws, x < 18446744073709551616) (hS : nodeS ws) (blk : Int) (N : Nat) (ps : List Pr) (eps : readF (gw ws 3) (ws.drop 8) = ps) (hN : ps.length = N) (h : ¬(1 ≤ blk ∧ blk ≤ 2047 ∧ 2 ≤ N)) : Calls Try.prog 18 #[v, .int .i64 blk] w fun e w' => e = .returned (.tuple #[nilV, nilV, .int .i64 2]) ∧ Below w.heap.size w w' := by
  have q := Below.refl w.heap.size w
  obtain ⟨a, c, rfl, hc⟩ := hv.form hn
  have hset : ∀ W, Below w.heap.size w W → Calls Try.prog 30 #[.slice a n c] W fun e w' => (∃ vo, e = .returned (.tuple #[vwV ws vo (.slice a n c), .int .i64 0]) ∧ OwnsT prE 2 w' W.heap.size 46 vo ps) ∧ Below W.heap.size W w' := fun W b => (nsettled_any n _ ws W (hv.up b) hn hb).mono fun e w' h => by
    rw [← eps]
    exact ⟨h.1 hS, h.2.2.2⟩
  clear hv hb hS eps
  refine X.fn Try.func18 rfl (n := 66) rfl rfl ?_
  refine CC.seq ?_
  refine CC.region ?_
  refine LL.val (R.assign rfl rfl) rfl rfl rfl ?_
  refine LL.val (R.assign rfl rfl) rfl rfl rfl ?_
  refine LL.val (R.assign rfl rfl) rfl rfl rfl ?_
  refine LL.nilS ?_
  refine CC.fwd (l := 0) (α := Unit) (fun _ => []) (fun _ => [(10, .int .i64 2)]) (fun _ W => Below w.heap.size w W) rfl ?first ?pass
  case pass =>
    rintro _ W q
    refine CC.seq ?_
    refine CC.skip ?_
    refine EE.thenN ?_
    refine CC.seq ?_
    refine CC.region ?_
    refine LL.val (R.move rfl rfl) rfl rfl rfl ?_
    refine LL.val (R.assign rfl rfl) rfl rfl rfl ?_
    refine LL.val (R.assign rfl rfl) rfl rfl rfl ?_
    refine LL.val (R.assign rfl rfl) rfl rfl rfl ?_
    refine LL.nilS ?_
    refine CC.ret ?_
    refine EE.jumpR ?_
    refine EE.ret _ rfl rfl ?_
    exact ⟨rfl, q⟩
  case first =>
    refine CC.seq ?_
    refine CC.region ?_
    refine LL.val (R.assign rfl rfl) rfl rfl rfl ?_
    refine LL.nilS ?_
    refine CC.seq ?_
    refine CC.region ?_
    refine LL.val (R.assign rfl rfl) rfl rfl rfl ?_
    refine LL.nilS ?_
    refine CC.seq ?_
    refine CC.region ?_
    refine LL.val (R.move rfl rfl) rfl rfl rfl ?_
    (refine LL.call (R.call rfl rfl rfl) rfl rfl rfl (hset _ q) ?_; rintro e Wb25 ⟨⟨vo, rfl, oo⟩, bb22⟩; refine ⟨_, rfl, ?_⟩; obtain ⟨av, cv, rfl, hcv⟩ := (oo.reads prEnc).form hN; clear oo)
    have zbb22 := bb22.size
    replace q := q.trans (bb22.mono q.size)
    refine LL.val (R.move rfl rfl) rfl rfl rfl ?_
    refine LL.val (R.extract rfl rfl rfl) rfl rfl rfl ?_
    refine LL.val (R.extract rfl rfl rfl) rfl rfl rfl ?_
    refine LL.alloc ([Value.int IntKind.i64 0, Value.int IntKind.i64 0, Value.int IntKind.u64 0, Value.int IntKind.u64 0, Value.int IntKind.i64 0, Value.slice none 0 0, Value.slice none 0 0]) rfl rfl rfl rfl rfl ?_
    intro Wb58 gb59 egb59 rb60 zb61 bb57
    replace bb22 := bb22.trans (bb57.mono bb22.size)
    replace q := q.trans (bb57.mono q.size)
    refine LL.storeN (vs := [Value.int IntKind.i64 ↑(gw ws 0 % 256), Value.int IntKind.i64 ↑(gw ws 1), Value.int IntKind.u64 ↑(gw ws 2), Value.int IntKind.u64 ↑(gw ws 3), Value.int IntKind.i64 ↑(gw ws 4), Value.slice av N cv, Value.slice a n c]) rfl rfl rfl rfl rb60 (by exact Nat.le_of_ble_eq_true rfl) (ones_of rfl) rfl rfl ?_
    intro Wb71 rb72 bb70 zb73
    have hlbb70 := rb60.lt
    replace rb72 : RowL Wb71 _ 70 [Value.int IntKind.i64 ↑(gw ws 0 % 256), Value.int IntKind.i64 ↑(gw ws 1), Value.int IntKind.u64 ↑(gw ws 2), Value.int IntKind.u64 ↑(gw ws 3), Value.int IntKind.i64 ↑(gw ws 4), Value.slice av N cv, Value.slice a n c] := rb72
    clear rb60
    replace bb57 := bb57.grown bb70 bb57.size (by rintro k ⟨⟩; omega)
    replace bb22 := bb22.grown bb70 bb22.size (by rintro k ⟨⟩; omega)
    replace q := q.grown bb70 q.size (by rintro k ⟨⟩; omega)
    have rb60 := rb72
    clear rb72
    refine LL.val (R.assign rfl rfl) rfl rfl rfl ?_
    refine LL.nilS ?_
    refine CC.seq ?_
    refine CC.seq ?_
    refine CC.region ?_
    refine LL.val (R.move rfl rfl) rfl rfl rfl ?_
    refine LL.val (R.neF rfl rfl rfl (by omega)) rfl rfl rfl ?_
    refine LL.nilS ?_
    refine CC.no rfl ?_
    refine CC.skip ?_
    refine EE.thenN ?_
    refine CC.seq ?_
    refine CC.seq ?_
    refine CC.region ?_
    refine LL.val (R.move rfl rfl) rfl rfl rfl ?_
    refine LL.vsplit (fun h => R.ltT rfl rfl rfl h) (fun h => R.ltF rfl rfl rfl (Int.not_lt.1 h)) rfl rfl rfl (fun cb114 => ?_) (fun cb114 => ?_)
    refine LL.val (R.move rfl rfl) rfl rfl rfl ?_
    refine LL.skip rfl rfl ?_
    refine LL.skip rfl rfl ?_
    refine LL.val (R.pick rfl rfl rfl) rfl rfl rfl ?_
    refine LL.val (R.move rfl rfl) rfl rfl rfl ?_
    refine LL.skip rfl rfl ?_
    refine LL.skip rfl rfl ?_
    refine LL.skip rfl rfl ?_
    refine LL.skip rfl rfl ?_
    refine LL.skip rfl rfl ?_
    refine LL.val (R.pick rfl rfl rfl) rfl rfl rfl ?_
    refine LL.nilS ?_
    refine CC.yes rfl ?_
    refine CC.seq ?_
    refine CC.region ?_
    refine LL.val (R.assign rfl rfl) rfl rfl rfl ?_
    refine LL.nilS ?_
    refine CC.goto ?_
    refine EE.thenG ?_
    (refine EE.jumpTo () rfl ?_ q; exact ⟨rfl, trivial⟩)
    refine LL.val (R.move rfl rfl) rfl rfl rfl ?_
    refine LL.val (R.move rfl rfl) rfl rfl rfl ?_
    refine LL.vsplit (fun h => R.geT rfl rfl rfl h) (fun h => R.geF rfl rfl rfl (Int.not_le.1 h)) rfl rfl rfl (fun cb179 => ?_) (fun cb179 => ?_)
    refine LL.val (R.pick rfl rfl rfl) rfl rfl rfl ?_
    refine LL.val (R.move rfl rfl) rfl rfl rfl ?_
    refine LL.skip rfl rfl ?_
    refine LL.skip rfl rfl ?_
    refine LL.skip rfl rfl ?_
    refine LL.skip rfl rfl ?_
    refine LL.skip rfl rfl ?_
    refine LL.val (R.pick rfl rfl rfl) rfl rfl rfl ?_
    refine LL.nilS ?_
    refine CC.yes rfl ?_
    refine CC.seq ?_
    refine CC.region ?_
    refine LL.val (R.assign rfl rfl) rfl rfl rfl ?_
    refine LL.nilS ?_
    refine CC.goto ?_
    refine EE.thenG ?_
    (refine EE.jumpTo () rfl ?_ q; exact ⟨rfl, trivial⟩)
    refine LL.val (R.pick rfl rfl rfl) rfl rfl rfl ?_
    refine LL.val (R.move rfl rfl) rfl rfl rfl ?_
    refine LL.val (R.field rfl rfl (I.fld rfl)) rfl rfl rfl ?_
    refine LL.val (R.field rfl rfl (I.fld rfl)) rfl rfl rfl ?_
    refine LL.val (R.load rfl rfl (I.ld1 rfl (RowL.cell rb60 rfl))) rfl rfl rfl ?_
    refine LL.val (R.len rfl rfl rfl rfl) rfl rfl rfl ?_
    refine LL.val (R.ltT rfl rfl rfl (by omega)) rfl rfl rfl ?_
    refine LL.val (R.pick rfl rfl rfl) rfl rfl rfl ?_
    refine LL.nilS ?_
    refine CC.yes rfl ?_
    refine CC.seq ?_
    refine CC.region ?_
    refine LL.val (R.assign rfl rfl) rfl rfl rfl ?_
    refine LL.nilS ?_
    refine CC.goto ?_
    refine EE.thenG ?_
    (refine EE.jumpTo () rfl ?_ q; exact ⟨rfl, trivial⟩)
end Go.Proofs.Ytfplilpefhhpnaa
/- node: forPair (written by gennd10.py). -/
namespace Go.Proofs.Ytfplilpefhhpnaa
set_option linter.unusedVariables false
set_option linter.unusedSimpArgs false
open Go.RowKit Go.Shelf
set_option maxRecDepth 100000
set_option maxHeartbeats 8000000
abbrev prV (k p : Nat) : Value := .agg #[.int .u64 (k : Int), .int .u64 (p : Int)]
theorem forPair_yes (n : Nat) (v : Value) (ws : List Nat) (w : World) (hv : ReadsT uE 1 w v ws) (hn : ws.length = n) (hb : ∀ x ∈ ws, x < 18446744073709551616) (hS : nodeS ws) (k p : Nat) (h1 : okP (gw ws 0 % 256) p) (h2 : okK (gw ws 0 % 256) (gw ws 2) k) : Calls Try.prog 39 #[v, prV k p] w fun e w' => (∃ vo, e = .returned (.tuple #[vwV ws vo v, .int .i64 0]) ∧ OwnsT prE 2 w' w.heap.size 46 vo (readF (gw ws 3) (ws.drop 8))) ∧ Below w.heap.size w w' := by
  have q := Below.refl w.heap.size w
  obtain ⟨a, c, rfl, hc⟩ := hv.form hn
  have hset : ∀ W, Below w.heap.size w W → Calls Try.prog 30 #[.slice a n c] W fun e w' => (∃ vo, e = .returned (.tuple #[vwV ws vo (.slice a n c), .int .i64 0]) ∧ OwnsT prE 2 w' W.heap.size 46 vo (readF (gw ws 3) (ws.drop 8))) ∧ Below W.heap.size W w' := fun W b => (nsettled_any n _ ws W (hv.up b) hn hb).mono fun e w' h => ⟨h.1 hS, h.2.2.2⟩
  clear hv hb hS
  refine X.fn Try.func39 rfl (n := 28) rfl rfl ?_
  refine CC.seq ?_
  refine CC.region ?_
  refine LL.box [Value.int IntKind.u64 ↑k, Value.int IntKind.u64 ↑p] rfl rfl rfl rfl rfl ?_
  intro W2 g3 eg3 r4 z5 b1
  replace q := q.trans (b1.mono q.size)
  have l6 := r4.lt
  refine LL.alloc ([Value.int IntKind.i64 0, Value.int IntKind.i64 0, Value.int IntKind.u64 0, Value.int IntKind.u64 0, Value.int IntKind.i64 0, Value.slice none 0 0, Value.slice none 0 0]) rfl rfl rfl rfl rfl ?_
  intro W8 g9 eg9 r10 z11 b7
  replace r4 := r4.up b7
  replace b1 := b1.trans (b7.mono b1.size)
  replace q := q.trans (b7.mono q.size)
  refine LL.val (R.assign rfl rfl) rfl rfl rfl ?_
  refine LL.nilS ?_
  refine CC.fwd (l := 0) (α := Unit) (fun _ => []) (fun _ => []) (fun _ _ => False) rfl ?first ?pass
  case pass =>
    rintro _ W ⟨⟩
  case first =>
    refine CC.seq ?_
    refine CC.region ?_
    refine LL.val (R.move rfl rfl) rfl rfl rfl ?_
    have la14 := r10.lt
    have la15 := r4.lt
    (refine LL.call (R.call rfl rfl rfl) rfl rfl rfl (hset _ q) ?_; rintro e Wa13 ⟨⟨vo, rfl, oo⟩, ba10⟩; refine ⟨_, rfl, ?_⟩; obtain ⟨av, cv, rfl, hcv⟩ := (oo.reads prEnc).form rfl; have hkk := Kept.refl (fun j => j < Wa13.heap.size ∧ w.heap.size + 1 < j) Wa13; have ooF := fun X (b : Kept (fun j => j < Wa13.heap.size ∧ w.heap.size + 1 < j) Wa13 X) => oo.kept b fun j h1 h2 => ⟨h2, by omega⟩; clear oo)
    have zba10 := ba10.size
    replace r10 := r10.up ba10
    replace b7 := b7.trans (ba10.mono b7.size)
    replace r4 := r4.up ba10
    replace b1 := b1.trans (ba10.mono b1.size)
    replace q := q.trans (ba10.mono q.size)
    refine LL.val (R.move rfl rfl) rfl rfl rfl ?_
    refine LL.val (R.extract rfl rfl rfl) rfl rfl rfl ?_
    refine LL.val (R.extract rfl rfl rfl) rfl rfl rfl ?_
    have la55 := r10.lt
    have la56 := r4.lt
    refine LL.alloc ([Value.int IntKind.i64 0, Value.int IntKind.i64 0, Value.int IntKind.u64 0, Value.int IntKind.u64 0, Value.int IntKind.i64 0, Value.slice none 0 0, Value.slice none 0 0]) rfl rfl rfl rfl rfl ?_
    intro Wa58 ga59 ega59 ra60 za61 ba57
    replace ba10 := ba10.trans (ba57.mono ba10.size)
    replace hkk := hkk.trans (bkept ba57 (fun j h => by have := h.1; have := hkk.size; omega))
    have ya62 := hkk.size
    replace r10 := r10.up ba57
    replace b7 := b7.trans (ba57.mono b7.size)
    replace r4 := r4.up ba57
    replace b1 := b1.trans (ba57.mono b1.size)
    replace q := q.trans (ba57.mono q.size)
    refine LL.storeN (vs := [Value.int IntKind.i64 ↑(gw ws 0 % 256), Value.int IntKind.i64 ↑(gw ws 1), Value.int IntKind.u64 ↑(gw ws 2), Value.int IntKind.u64 ↑(gw ws 3), Value.int IntKind.i64 ↑(gw ws 4), Value.slice av (readF (gw ws 3) (List.drop 8 ws)).length cv, Value.slice a n c]) rfl rfl rfl rfl ra60 (by exact Nat.le_of_ble_eq_true rfl) (ones_of rfl) rfl rfl ?_
    intro Wa74 ra75 ba73 za76
    have hlba73 := ra60.lt
    replace ra75 : RowL Wa74 _ 70 [Value.int IntKind.i64 ↑(gw ws 0 % 256), Value.int IntKind.i64 ↑(gw ws 1), Value.int IntKind.u64 ↑(gw ws 2), Value.int IntKind.u64 ↑(gw ws 3), Value.int IntKind.i64 ↑(gw ws 4), Value.slice av (readF (gw ws 3) (List.drop 8 ws)).length cv, Value.slice a n c] := ra75
    clear ra60
    replace ba57 := ba57.grown ba73 ba57.size (by rintro k ⟨⟩; omega)
    replace ba10 := ba10.grown ba73 ba10.size (by rintro k ⟨⟩; omega)
    replace hkk := hkk.trans (grown_kept ba73 (fun j h => by have := h.1; have := hkk.size; omega) (fun j h e => by cases e; have h2 := h.1; have h3 := h.2; omega))
    replace r10 := r10.gr ba73 (by have := r10.lt; omega)
    replace b7 := b7.grown ba73 b7.size (by rintro k ⟨⟩; omega)
    replace r4 := r4.gr ba73 (by have := r4.lt; omega)
    replace b1 := b1.grown ba73 b1.size (by rintro k ⟨⟩; omega)
    replace q := q.grown ba73 q.size (by rintro k ⟨⟩; omega)
    have ra60 := ra75
    clear ra75
    refine LL.val (R.assign rfl rfl) rfl rfl rfl ?_
    refine LL.nilS ?_
    refine CC.seq ?_
    refine CC.seq ?_
    refine CC.region ?_
    refine LL.val (R.move rfl rfl) rfl rfl rfl ?_
    refine LL.val (R.neF rfl rfl rfl (by omega)) rfl rfl rfl ?_
    refine LL.nilS ?_
    refine CC.no rfl ?_
    refine CC.skip ?_
    refine EE.thenN ?_
    refine CC.seq ?_
    refine CC.seq ?_
    refine CC.region ?_
    refine LL.val (R.field rfl rfl (I.fld rfl)) rfl rfl rfl ?_
    refine LL.val (R.load rfl rfl (I.ld1 rfl (RowL.cell r4 rfl))) rfl rfl rfl ?_
    refine LL.callBT (R.call rfl rfl rfl) rfl rfl rfl (vptr_d _ _ _ _ _ _ _ _ _ _ (by assumption)) (by first | assumption | omega) (fun Wa138 ba137 => ?_)
    have zba137 := ba137.size
    replace ba57 := ba57.trans (ba137.mono ba57.size)
    replace ba10 := ba10.trans (ba137.mono ba10.size)
    replace hkk := hkk.trans (bkept ba137 (fun j h => by have := h.1; have := hkk.size; omega))
    have ya139 := hkk.size
    replace r10 := r10.up ba137
    replace b7 := b7.trans (ba137.mono b7.size)
    replace r4 := r4.up ba137
    replace b1 := b1.trans (ba137.mono b1.size)
    replace q := q.trans (ba137.mono q.size)
    replace ra60 := ra60.up ba137
    refine LL.val (R.not rfl rfl) rfl rfl rfl ?_
    refine LL.val (R.move rfl rfl) rfl rfl rfl ?_
    refine LL.val (R.field rfl rfl (I.fld rfl)) rfl rfl rfl ?_
    refine LL.val (R.load rfl rfl (I.ld1 rfl (RowL.cell r4 rfl))) rfl rfl rfl ?_
    refine LL.callBT (R.call rfl rfl rfl) rfl rfl rfl (vkey_d _ _ _ _ _ _ _ _ _ _ (by assumption)) (by first | assumption | omega) (fun Wa191 ba190 => ?_)
    have zba190 := ba190.size
    replace ba137 := ba137.trans (ba190.mono ba137.size)
    replace ba57 := ba57.trans (ba190.mono ba57.size)
    replace ba10 := ba10.trans (ba190.mono ba10.size)
    replace hkk := hkk.trans (bkept ba190 (fun j h => by have := h.1; have := hkk.size; omega))
    have ya192 := hkk.size
    replace r10 := r10.up ba190
    replace b7 := b7.trans (ba190.mono b7.size)
    replace r4 := r4.up ba190
    replace b1 := b1.trans (ba190.mono b1.size)
    replace q := q.trans (ba190.mono q.size)
    replace ra60 := ra60.up ba190
    refine LL.val (R.not rfl rfl) rfl rfl rfl ?_
    refine LL.val (R.pick rfl rfl rfl) rfl rfl rfl ?_
    refine LL.nilS ?_
    refine CC.no rfl ?_
    refine CC.skip ?_
    refine EE.thenN ?_
    refine CC.seq ?_
    refine CC.seq ?_
    refine CC.region ?_
    refine LL.val (R.load rfl rfl (I.ldNc (vs := [Value.int IntKind.i64 ↑(gw ws 0 % 256), Value.int IntKind.i64 ↑(gw ws 1), Value.int IntKind.u64 ↑(gw ws 2), Value.int IntKind.u64 ↑(gw ws 3), Value.int IntKind.i64 ↑(gw ws 4), Value.slice av (readF (gw ws 3) (List.drop 8 ws)).length cv, Value.slice a n c]) (RowL.cells ra60 rfl) (by rfl) (by rfl))) rfl rfl rfl ?_
    refine LL.storeN (vs := [Value.int IntKind.i64 ↑(gw ws 0 % 256), Value.int IntKind.i64 ↑(gw ws 1), Value.int IntKind.u64 ↑(gw ws 2), Value.int IntKind.u64 ↑(gw ws 3), Value.int IntKind.i64 ↑(gw ws 4), Value.slice av (readF (gw ws 3) (List.drop 8 ws)).length cv, Value.slice a n c]) rfl rfl rfl rfl r10 (by exact Nat.le_of_ble_eq_true rfl) (ones_of rfl) rfl rfl ?_
    intro Wa234 ra235 ba233 za236
    have hlba233 := r10.lt
    replace ra235 : RowL Wa234 _ 70 [Value.int IntKind.i64 ↑(gw ws 0 % 256), Value.int IntKind.i64 ↑(gw ws 1), Value.int IntKind.u64 ↑(gw ws 2), Value.int IntKind.u64 ↑(gw ws 3), Value.int IntKind.i64 ↑(gw ws 4), Value.slice av (readF (gw ws 3) (List.drop 8 ws)).length cv, Value.slice a n c] := ra235
    clear r10
    replace hkk := hkk.trans (grown_kept ba233 (fun j h => by have := h.1; have := hkk.size; omega) (fun j h e => by cases e; have h2 := h.1; have h3 := h.2; omega))
    replace b7 := b7.grown ba233 b7.size (by rintro k ⟨⟩; omega)
    replace r4 := r4.gr ba233 (by have := r4.lt; omega)
    replace b1 := b1.grown ba233 b1.size (by rintro k ⟨⟩; omega)
    replace q := q.grown ba233 q.size (by rintro k ⟨⟩; omega)
    replace ra60 := ra60.gr ba233 (by have := ra60.lt; omega)
    have r10 := ra235
    clear ra235
    refine LL.val (R.assign rfl rfl) rfl rfl rfl ?_
    refine LL.nilS ?_
    refine CC.ret ?_
    refine EE.thenR ?_
    refine EE.jumpR ?_
    refine EE.ret2 rfl ⟨_, rfl, lvNc (RowL.cells0 (by assumption)) (by rfl) (by rfl)⟩ rfl ?_
    exact ⟨⟨_, rfl, OwnsT.lower (ooF _ hkk) (by omega)⟩, q⟩
end Go.Proofs.Ytfplilpefhhpnaa
/- node: moved, down (written by gennd11.py). -/
namespace Go.Proofs.Ytfplilpefhhpnaa
set_option linter.unusedVariables false
set_option linter.unusedSimpArgs false
open Go.RowKit Go.Shelf
set_option maxRecDepth 100000
set_option maxHeartbeats 8000000
abbrev ptV (a : Int) (v : Nat) : Value := .agg #[.int .i64 a, .int .u64 (v : Int)]
theorem down1_any (a : Int) (x : Nat) (w : World) (h : 0 ≤ a ∧ a ≤ 1000) : Calls Try.prog 78 #[ptV a x] w fun e w' => e = .returned (ptV (a + 8) x) ∧ Below w.heap.size w w' := by
  have q := Below.refl w.heap.size w
  refine X.fn Try.func78 rfl (n := 8) rfl rfl ?_
  refine CC.seq ?_
  refine CC.region ?_
  refine LL.box [Value.int IntKind.i64 a, Value.int IntKind.u64 ↑x] rfl rfl rfl rfl rfl ?_
  intro W2 g3 eg3 r4 z5 b1
  replace q := q.trans (b1.mono q.size)
  have l6 := r4.lt
  refine LL.alloc ([Value.int IntKind.i64 0, Value.int IntKind.u64 0]) rfl rfl rfl rfl rfl ?_
  intro W8 g9 eg9 r10 z11 b7
  replace r4 := r4.up b7
  replace b1 := b1.trans (b7.mono b1.size)
  replace q := q.trans (b7.mono q.size)
  refine LL.nilS ?_
  refine CC.seq ?_
  refine CC.region ?_
  refine LL.val (R.field rfl rfl (I.fld rfl)) rfl rfl rfl ?_
  refine LL.val (R.load rfl rfl (I.ld1 rfl (RowL.cell r4 rfl))) rfl rfl rfl ?_
  refine LL.val (R.addI rfl rfl rfl (by omega)) rfl rfl rfl ?_
  refine LL.val (R.field rfl rfl (I.fld rfl)) rfl rfl rfl ?_
  refine LL.store rfl rfl rfl rfl r4 (by exact Nat.le_of_ble_eq_true rfl) rfl rfl rfl rfl ?_
  intro W13 r14 b12 z15
  have hlb12 := r4.lt
  replace r14 : RowL W13 _ 68 [Value.int IntKind.i64 (a + 8), Value.int IntKind.u64 ↑x] := r14
  clear r4
  replace r10 := r10.gr b12 (by have := r10.lt; omega)
  replace b1 := b1.grown b12 b1.size (by rintro k ⟨⟩; omega)
  replace q := q.grown b12 q.size (by rintro k ⟨⟩; omega)
  have r4 := r14
  clear r14
  refine LL.nilS ?_
  refine CC.seq ?_
  refine CC.region ?_
  refine LL.val (R.load rfl rfl (I.ldNc (vs := [Value.int IntKind.i64 (a + 8), Value.int IntKind.u64 ↑x]) (RowL.cells r4 rfl) (by rfl) (by rfl))) rfl rfl rfl ?_
  refine LL.storeN (vs := [Value.int IntKind.i64 (a + 8), Value.int IntKind.u64 ↑x]) rfl rfl rfl rfl r10 (by exact Nat.le_of_ble_eq_true rfl) (ones_of rfl) rfl rfl ?_
  intro W17 r18 b16 z19
  have hlb16 := r10.lt
  replace r18 : RowL W17 _ 68 [Value.int IntKind.i64 (a + 8), Value.int IntKind.u64 ↑x] := r18
  clear r10
  replace b1 := b1.grown b16 b1.size (by rintro k ⟨⟩; omega)
  replace q := q.grown b16 q.size (by rintro k ⟨⟩; omega)
  replace r4 := r4.gr b16 (by have := r4.lt; omega)
  have r10 := r18
  clear r18
  refine LL.nilS ?_
  refine CC.ret ?_
  refine EE.retC rfl rfl (lvNc (RowL.cells0 (by assumption)) (by rfl) (by rfl)) ?_
  exact ⟨rfl, q⟩
def movP (os : List Pt) : List Pt := os.map fun p => (p.1 + 8, p.2)
theorem moved_any (os : List Pt) (v : Value) (w : World) (hv : ReadsT pE 2 w v os) (hl : os.length ≤ 2000) (hr : ∀ p ∈ os, 0 ≤ p.1 ∧ p.1 ≤ 1000) : Calls Try.prog 77 #[v, .func (.func 78) #[] #[]] w fun e w' => ∃ v', e = .returned v' ∧ OwnsT pE 2 w' w.heap.size 68 v' (movP os) ∧ Below w.heap.size w w' := by
  have q := Below.refl w.heap.size w
  obtain ⟨N, hN⟩ : ∃ N, os.length = N := ⟨_, rfl⟩
  obtain ⟨a, c, rfl, hc⟩ := hv.form hN
  rw [hN] at hl
  have hF : ∀ W, Below w.heap.size w W → ReadsT pE 2 W (.slice a N c) os := fun W b => hv.up b
  clear hv
  refine X.fn Try.func77 rfl (n := 22) rfl rfl ?_
  refine CC.seq ?_
  refine CC.region ?_
  refine LL.val (R.assign rfl rfl) rfl rfl rfl ?_
  refine LL.nilS ?_
  refine CC.seq ?_
  refine CC.region ?_
  refine LL.val (R.assign rfl rfl) rfl rfl rfl ?_
  refine LL.nilS ?_
  refine CC.seq ?_
  refine CC.seq ?_
  refine CC.region ?_
  refine LL.val (R.move rfl rfl) rfl rfl rfl ?_
  refine LL.val (R.len rfl rfl rfl rfl) rfl rfl rfl ?_
  refine LL.val (R.move rfl rfl) rfl rfl rfl ?_
  refine LL.nilS ?_
  refine CC.block ?_
  refine CC.loop (α := Nat × Value) (fun s => [(1, .func (.func 78) #[] #[]), (5, s.2), (8, .slice a N c), (9, .int .i64 (N : Int)), (10, .int .i64 (s.1 : Int))]) (fun s W => s.1 ≤ N ∧ Below w.heap.size w W ∧ OwnsT pE 2 W w.heap.size 68 s.2 (movP (os.take s.1))) (fun s => N - s.1) (0, .slice none 0 0) ⟨rfl, rfl, rfl, rfl, rfl, trivial⟩ ⟨Nat.zero_le _, q, OwnsT.none _ _ _⟩ ?_
  clear q
  rintro ⟨i, v⟩ W ⟨hi, q, oa⟩
  simp only at hi oa
  show CC none Try.prog _ 22 [] (sl [(1, .func (.func 78) #[] #[]), (5, v), (8, .slice a N c), (9, .int .i64 (N : Int)), (10, .int .i64 (i : Int))]) _ W
  have htl : (movP (os.take i)).length = i := by
    unfold movP
    rw [List.length_map, List.length_take]
    omega
  obtain ⟨a3, c3, rfl, hc3⟩ := (oa.reads pEnc).form htl
  by_cases hlt : i < N
  case neg =>
    obtain rfl : i = N := by omega
    have e : os.take i = os := List.take_of_length_le (by omega)
    rw [e] at oa
    refine CC.seq ?_
    refine CC.region ?_
    refine LL.val (R.ltF rfl rfl rfl (by omega)) rfl rfl rfl ?_
    refine LL.nilS ?_
    refine CC.seq ?_
    refine CC.no rfl ?_
    refine CC.exit ?_
    refine EE.thenX ?_
    refine EE.thenX ?_
    refine EE.inX ?_
    refine EE.thenN ?_
    refine CC.seq ?_
    refine CC.region ?_
    refine LL.val (R.move rfl rfl) rfl rfl rfl ?_
    refine LL.val (R.assign rfl rfl) rfl rfl rfl ?_
    refine LL.nilS ?_
    refine CC.ret ?_
    refine EE.ret _ rfl rfl ?_
    exact ⟨_, rfl, oa, q⟩
  obtain ⟨⟨x, y⟩, hx⟩ : ∃ x, os[i]? = some x := ⟨_, List.getElem?_eq_getElem (by omega)⟩
  have hxr := hr _ (List.mem_of_getElem? hx)
  simp only at hxr
  have rd := hF _ q
  obtain ⟨b1, o1, rfl, _, _⟩ := rd.get pEnc hx
  have m1 : CellsN W ⟨b1, o1 + i * 2, none⟩ 2 [.int .i64 x, .int .u64 (y : Int)] := rd.elemN pEnc hx
  have e3 : movP (os.take (i + 1)) = movP (os.take i) ++ [(x + 8, y)] := by
    unfold movP
    rw [List.take_add_one, hx, List.map_append]
    rfl
  have lw := q.size
  have hkk := Kept.refl (fun j => j < W.heap.size ∧ True) W
  have oaF := fun X (b : Kept (fun j => j < W.heap.size ∧ True) W X) => oa.kept b fun j h1 h2 => ⟨h2, trivial⟩
  clear rd hr oa
  refine CC.seq ?_
  refine CC.region ?_
  refine LL.val (R.ltT rfl rfl rfl (by omega)) rfl rfl rfl ?_
  refine LL.nilS ?_
  refine CC.seq ?_
  refine CC.yes rfl ?_
  refine CC.skip ?_
  refine EE.thenN ?_
  refine CC.seq ?_
  refine CC.block ?_
  refine CC.seq ?_
  refine CC.region ?_
  refine LL.val (R.index rfl rfl rfl (I.ixS rfl (by omega))) rfl rfl rfl ?_
  refine LL.val (R.load rfl rfl (I.ldNc (by assumption) rfl rfl)) rfl rfl rfl ?_
  refine LL.alloc ([Value.int IntKind.i64 0, Value.int IntKind.u64 0]) rfl rfl rfl rfl rfl ?_
  intro Wb2 gb3 egb3 rb4 zb5 bb1
  replace q := q.trans (bb1.mono q.size)
  replace m1 := m1.up bb1
  replace hkk := hkk.trans (bkept bb1 (fun j h => by have := h.1; have := hkk.size; omega))
  have yb6 := hkk.size
  refine LL.storeN (vs := [Value.int IntKind.i64 x, Value.int IntKind.u64 ↑y]) rfl rfl rfl rfl rb4 (by exact Nat.le_of_ble_eq_true rfl) (ones_of rfl) rfl rfl ?_
  intro Wb8 rb9 bb7 zb10
  have hlbb7 := rb4.lt
  replace rb9 : RowL Wb8 _ 68 [Value.int IntKind.i64 x, Value.int IntKind.u64 ↑y] := rb9
  clear rb4
  replace bb1 := bb1.grown bb7 bb1.size (by rintro k ⟨⟩; omega)
  replace q := q.grown bb7 q.size (by rintro k ⟨⟩; omega)
  replace m1 := m1.gr bb7 (by have := m1.lt; omega)
  replace hkk := hkk.trans (grown_kept bb7 (fun j h => by have := h.1; have := hkk.size; omega) (fun j h e => by cases e; have h2 := h.1; have h3 := h.2; omega))
  have rb4 := rb9
  clear rb9
  refine LL.nilS ?_
  refine CC.region ?_
  refine LL.val (R.move rfl rfl) rfl rfl rfl ?_
  refine LL.val (R.move rfl rfl) rfl rfl rfl ?_
  refine LL.val (R.load rfl rfl (I.ldNc (vs := [Value.int IntKind.i64 x, Value.int IntKind.u64 ↑y]) (RowL.cells rb4 rfl) (by rfl) (by rfl))) rfl rfl rfl ?_
  refine LL.call (R.callV rfl rfl rfl rfl) rfl rfl rfl (down1_any _ _ _ (by omega)) ?_
  rintro e Wb12 ⟨rfl, bb11⟩
  refine ⟨_, rfl, ?_⟩
  have zbb11 := bb11.size
  replace bb1 := bb1.trans (bb11.mono bb1.size)
  replace q := q.trans (bb11.mono q.size)
  replace m1 := m1.up bb11
  replace hkk := hkk.trans (bkept bb11 (fun j h => by have := h.1; have := hkk.size; omega))
  have yb14 := hkk.size
  replace rb4 := rb4.up bb11
  have lb15 := rb4.lt
  refine LL.lit (e := 68) [Value.int IntKind.i64 (x + 8), Value.int IntKind.u64 ↑y] 1 rfl rfl (fun _ => by kernel_rfl) rfl rfl ?_
  intro Wb17 gb18 egb18 rb19 zb20 bb16
  replace bb11 := bb11.trans (bb16.mono bb11.size)
  replace bb1 := bb1.trans (bb16.mono bb1.size)
  replace q := q.trans (bb16.mono q.size)
  replace m1 := m1.up bb16
  replace hkk := hkk.trans (bkept bb16 (fun j h => by have := h.1; have := hkk.size; omega))
  have yb21 := hkk.size
  replace rb4 := rb4.up bb16
  (have oa := oaF _ hkk; clear oaF hkk; refine LL.appendT2 rfl rfl pEnc ElPut oa (us := [((x + 8 : Int), y)]) (RowL.readsT pEnc (ts := [((x + 8 : Int), y)]) (by assumption) 1 (Nat.le_refl _)) (by simp [maxLen]; omega) (by simp; omega) (by have := q.size; omega) rfl rfl ?_; intro v' Wz ob gra hva; replace q := q.grown gra q.size (fun g hg => by have := own_ge oa g hg; omega); clear oa hva gra; rw [← e3] at ob)
  refine LL.val (R.assign rfl rfl) rfl rfl rfl ?_
  refine LL.nil ?_
  refine EE.inN ?_
  refine EE.thenN ?_
  refine CC.region ?_
  refine LL.val (R.addNc rfl rfl rfl rfl (by omega)) rfl rfl rfl ?_
  refine LL.val (R.move rfl rfl) rfl rfl rfl ?_
  refine LL.nil ?_
  exact EE.round (i + 1, _) ⟨rfl, rfl, rfl, rfl, rfl, trivial⟩ ⟨by show i + 1 ≤ N; omega, q, ob⟩ (by show N - (i + 1) < N - i; omega)
theorem down_any (os : List Pt) (v : Value) (w : World) (hv : ReadsT pE 2 w v os) (hl : os.length ≤ 2000) (hr : ∀ p ∈ os, 0 ≤ p.1 ∧ p.1 ≤ 1000) : Calls Try.prog 53 #[v] w fun e w' => ∃ v', e = .returned v' ∧ OwnsT pE 2 w' w.heap.size 68 v' (movP os) ∧ Below w.heap.size w w' := by
  have q := Below.refl w.heap.size w
  obtain ⟨a, c, rfl, hc⟩ := hv.form rfl
  refine X.fn Try.func53 rfl (n := 5) rfl rfl ?_
  refine CC.seq ?_
  refine CC.region ?_
  refine LL.val (R.assign rfl rfl) rfl rfl rfl ?_
  refine LL.nilS ?_
  refine CC.seq ?_
  refine CC.region ?_
  refine LL.val (R.move rfl rfl) rfl rfl rfl ?_
  (refine LL.call (R.call rfl rfl rfl) rfl rfl rfl (moved_any os _ _ (by assumption) hl hr) ?_; rintro e W18 ⟨v7, rfl, o7, b15⟩; refine ⟨_, rfl, ?_⟩; obtain ⟨a7, c7, rfl, hc7⟩ := (o7.reads pEnc).form rfl)
  have zb15 := b15.size
  replace q := q.trans (b15.mono q.size)
  replace hv := hv.up b15
  refine LL.val (R.assign rfl rfl) rfl rfl rfl ?_
  refine LL.nilS ?_
  refine CC.ret ?_
  refine EE.ret _ rfl rfl ?_
  exact ⟨_, rfl, OwnsT.lower (by assumption) (by omega), q⟩
end Go.Proofs.Ytfplilpefhhpnaa
/- node: the closure of Put (written by gennd12.py). -/
namespace Go.Proofs.Ytfplilpefhhpnaa
set_option linter.unusedVariables false
set_option linter.unusedSimpArgs false
open Go.RowKit Go.Shelf
set_option maxRecDepth 100000
set_option maxHeartbeats 8000000
theorem putC_any (left n k p gp : Nat) (v : Value) (s : List Nat) (w : World) (hv : ReadsT uE 1 w v s) (hn : s.length = n) (h80 : n ≤ 1048576) (r : RowL w gp 46 [.int .u64 (k : Int), .int .u64 (p : Int)]) : Calls Try.prog 41 #[.int .u64 (left : Int), v, .pointer (some ⟨gp, 0, none⟩)] w fun e w' => ∃ vo, e = .returned (.tuple #[vo, .int .i64 ((putF left s k p).1 : Int)]) ∧ OwnsT pE 2 w' w.heap.size 68 vo (putF left s k p).2 ∧ Below w.heap.size w w' := by
  have q := Below.refl w.heap.size w
  obtain ⟨a, c, rfl, hc⟩ := hv.form hn
  refine X.fn Try.func41 rfl (n := 13) rfl rfl ?_
  refine CC.seq ?_
  refine CC.region ?_
  refine LL.val (R.assign rfl rfl) rfl rfl rfl ?_
  refine LL.val (R.assign rfl rfl) rfl rfl rfl ?_
  refine LL.nilS ?_
  refine CC.seq ?_
  refine CC.region ?_
  refine LL.val (R.move rfl rfl) rfl rfl rfl ?_
  refine LL.val (R.move rfl rfl) rfl rfl rfl ?_
  refine LL.val (R.load rfl rfl (I.ldNc (vs := [Value.int IntKind.u64 ↑k, Value.int IntKind.u64 ↑p]) (RowL.cells r rfl) (by rfl) (by rfl))) rfl rfl rfl ?_
  have l45 := r.lt
  (refine LL.call (R.call rfl rfl rfl) rfl rfl rfl (put_any left n k p _ s _ (by assumption) hn h80) ?_; rintro e W44 ⟨vo, rfl, oo, b41⟩; refine ⟨_, rfl, ?_⟩; obtain ⟨av, cv, rfl, hcv⟩ := (oo.reads pEnc).form rfl)
  have zb41 := b41.size
  replace r := r.up b41
  replace q := q.trans (b41.mono q.size)
  replace hv := hv.up b41
  refine LL.val (R.extract rfl rfl rfl) rfl rfl rfl ?_
  refine LL.val (R.extract rfl rfl rfl) rfl rfl rfl ?_
  refine LL.val (R.assign rfl rfl) rfl rfl rfl ?_
  refine LL.val (R.assign rfl rfl) rfl rfl rfl ?_
  refine LL.nilS ?_
  refine CC.ret ?_
  refine EE.ret _ rfl rfl ?_
  exact ⟨_, rfl, OwnsT.lower (by assumption) (by omega), q⟩
end Go.Proofs.Ytfplilpefhhpnaa
/- node: change (written by gennd13.py). -/
namespace Go.Proofs.Ytfplilpefhhpnaa
set_option linter.unusedVariables false
set_option linter.unusedSimpArgs false
open Go.RowKit Go.Shelf
set_option maxRecDepth 100000
set_option maxHeartbeats 8000000
end Go.Proofs.Ytfplilpefhhpnaa
/- node: change that succeeds (written by gennd14.py). -/
namespace Go.Proofs.Ytfplilpefhhpnaa
set_option linter.unusedVariables false
set_option linter.unusedSimpArgs false
open Go.RowKit Go.Shelf
set_option maxRecDepth 100000
set_option maxHeartbeats 8000000
theorem movP_len (os : List Pt) : (movP os).length = os.length := List.length_map _
theorem change_other (gv : Nat) (l s : Int) (lo le : Nat) (wy way : Nat) (pv : Value) (bk off c : Nat) (F : FuncId) (cap : Array Value) (hE : entB Try.prog F = true) (w : World) (hc : 64 ≤ c) (r : RowL w gv 70 (viewL l s lo le (wy : Int) pv (.slice (some ⟨bk, off, none⟩) 64 c))) (os : List Pt) (hl : os.length ≤ 2000) (hr : ∀ p ∈ os, 0 ≤ p.1 ∧ p.1 ≤ 1000) (hw : wy ≠ way) (hy : wy ≤ 2 ∧ way ≤ 2) (hF : ∀ W, Below w.heap.size w W → Calls Try.prog F (#[.int .u64 (le : Int), .slice (some ⟨bk, off + 8 * 1, none⟩) (64 - 8) (c - 8)] ++ cap) W fun e w' => ∃ vo, e = .returned (.tuple #[vo, .int .i64 0]) ∧ OwnsT pE 2 w' W.heap.size 68 vo os ∧ Below W.heap.size W w') : Calls Try.prog 40 #[.pointer (some ⟨gv, 0, none⟩), .int .i64 (way : Int), .func (.func F) #[] cap] w fun e w' => ∃ v', e = .returned (.tuple #[v', .int .i64 0]) ∧ OwnsT pE 2 w' w.heap.size 68 v' (((4 : Int), way) :: movP os) ∧ Below w.heap.size w w' := by
  have q := Below.refl w.heap.size w
  have hml := movP_len os
  have hcb : IntKind.u64.wrap (way : Int) = (way : Int) := by
    rw [IntKind.wrap_u64]
    omega
  refine X.fn Try.func40 rfl (n := 46) rfl rfl ?_
  refine CC.seq ?_
  refine CC.region ?_
  refine LL.val (R.assign rfl rfl) rfl rfl rfl ?_
  refine LL.val (R.assign rfl rfl) rfl rfl rfl ?_
  refine LL.nilS ?_
  refine CC.seq ?_
  refine CC.freeZ (fun W_ j => j < W_.heap.size ∧ (True)) (by kernel_rfl) (by kernel_rfl) (fun W34 b33 z35 => ?_)
  replace r := r.up b33
  replace q := q.trans (b33.mono q.size)
  have hok : Kept (fun j => j < W34.heap.size ∧ (True)) W34 W34 := Kept.refl _ _
  have fzr := fzRow (K := fun j => j < W34.heap.size ∧ (True)) r ⟨r.lt, (by first | trivial | omega)⟩
  refine AA.pure 0 rfl hok (by kernel_rfl) (fun w' b' => R.move rfl rfl) rfl rfl ?_
  refine AA.pure 1 rfl hok (by kernel_rfl) (fun w' b' => R.move rfl rfl) rfl rfl ?_
  refine AA.pure 2 rfl hok (by kernel_rfl) (fun w' b' => R.nil rfl rfl) rfl rfl ?_
  refine AA.pure 3 rfl hok (by kernel_rfl) (fun w' b' => R.field rfl rfl (I.fld rfl)) rfl rfl ?_
  refine AA.pure 4 rfl hok (by kernel_rfl) (fun w' b' => R.field rfl rfl (I.fld rfl)) rfl rfl ?_
  refine AA.pure 5 rfl hok (by kernel_rfl) (fun w' b' => R.load rfl rfl (I.ld1 rfl (RowL.cell (fzr w' b') rfl))) rfl rfl ?_
  refine AA.pure 6 rfl hok (by kernel_rfl) (fun w' b' => R.move rfl rfl) rfl rfl ?_
  refine AA.pure 7 rfl hok (by kernel_rfl) (fun w' b' => R.nil rfl rfl) rfl rfl ?_
  refine AA.pure 8 rfl hok (by kernel_rfl) (fun w' b' => R.field rfl rfl (I.fld rfl)) rfl rfl ?_
  refine AA.pure 9 rfl hok (by kernel_rfl) (fun w' b' => R.load rfl rfl (I.ld1 rfl (RowL.cell (fzr w' b') rfl))) rfl rfl ?_
  refine AA.one 10 (by kernel_rfl) ?_
  (refine SR.val rfl (R.slice rfl rfl rfl rfl rfl (I.slFrom (lo := 8) rfl (by omega) (by omega) (by omega))) rfl rfl hok ?_)
  refine AA.one 11 (by kernel_rfl) ?_
  have l40 := r.lt
  (refine SR.call rfl (R.callV rfl rfl rfl hE) rfl rfl (hF _ q) ?_; rintro e W39 ⟨vo, rfl, oo, b36⟩; refine ⟨_, rfl, ?_⟩; obtain ⟨av, cv, rfl, hcv⟩ := (oo.reads pEnc).form rfl; have ooF := fun X (b : Below W39.heap.size W39 X) => (oo.up b).reads pEnc; have qS := Below.refl W39.heap.size W39; clear oo)
  have zb36 := b36.size
  replace b33 := b33.trans (b36.mono b33.size)
  replace r := r.up b36
  replace q := q.trans (b36.mono q.size)
  replace hok := hok.trans (bkept b36 (fun j h => by have := h.1; have := hok.size; omega))
  have y44 := hok.size
  refine ⟨hok, ?_⟩
  refine AA.pure 12 rfl hok (by kernel_rfl) (fun w' b' => R.move rfl rfl) rfl rfl ?_
  refine AA.pure 13 rfl hok (by kernel_rfl) (fun w' b' => R.extract rfl rfl rfl) rfl rfl ?_
  refine AA.pure 14 rfl hok (by kernel_rfl) (fun w' b' => R.extract rfl rfl rfl) rfl rfl ?_
  refine AA.pure 15 rfl hok (by kernel_rfl) (fun w' b' => R.assign rfl rfl) rfl rfl ?_
  refine AA.pure 16 rfl hok (by kernel_rfl) (fun w' b' => R.assign rfl rfl) rfl rfl ?_
  refine AA.done rfl ?_
  clear fzr hok
  refine EE.thenN ?_
  refine CC.seq ?_
  refine CC.seq ?_
  refine CC.region ?_
  refine LL.val (R.move rfl rfl) rfl rfl rfl ?_
  refine LL.val (R.neF rfl rfl rfl (by omega)) rfl rfl rfl ?_
  refine LL.nilS ?_
  refine CC.no rfl ?_
  refine CC.skip ?_
  refine EE.thenN ?_
  refine CC.seq ?_
  refine CC.region ?_
  refine LL.val (R.assign rfl rfl) rfl rfl rfl ?_
  refine LL.nilS ?_
  refine CC.seq ?_
  refine CC.seq ?_
  refine CC.region ?_
  refine LL.val (R.move rfl rfl) rfl rfl rfl ?_
  refine LL.val (R.nil rfl rfl) rfl rfl rfl ?_
  refine LL.val (R.field rfl rfl (I.fld rfl)) rfl rfl rfl ?_
  refine LL.val (R.field rfl rfl (I.fld rfl)) rfl rfl rfl ?_
  refine LL.val (R.load rfl rfl (I.ld1 rfl (RowL.cell r rfl))) rfl rfl rfl ?_
  refine LL.val (R.move rfl rfl) rfl rfl rfl ?_
  refine LL.val (R.neT rfl rfl rfl (by omega)) rfl rfl rfl ?_
  refine LL.nilS ?_
  refine CC.yes rfl ?_
  refine CC.region ?_
  refine LL.val (R.move rfl rfl) rfl rfl rfl ?_
  refine LL.val (R.move rfl rfl) rfl rfl rfl ?_
  refine LL.val (R.convI rfl rfl rfl rfl (wrapU (by omega) (by omega))) rfl rfl rfl ?_
  refine LL.val (R.buildV rfl rfl (v := .agg #[Value.int IntKind.i64 4, Value.int IntKind.u64 ↑way]) (fun _ => by kernel_rfl)) rfl rfl rfl ?_
  have l285 := r.lt
  refine LL.lit (e := 68) [Value.int IntKind.i64 4, Value.int IntKind.u64 ↑way] 1 rfl rfl (fun _ => by kernel_rfl) rfl rfl ?_
  intro W287 g288 eg288 r289 z290 b286
  replace b36 := b36.trans (b286.mono b36.size)
  replace qS := qS.trans (b286.mono qS.size)
  replace b33 := b33.trans (b286.mono b33.size)
  replace r := r.up b286
  replace q := q.trans (b286.mono q.size)
  (refine LL.appendT2 rfl rfl pEnc ElPut (OwnsT.none _ w.heap.size _) (us := [((4 : Int), way)]) (RowL.readsT pEnc (ts := [((4 : Int), way)]) (by assumption) 1 (Nat.le_refl _)) (by simp [maxLen]) (by simp) (by have := q.size; omega) rfl rfl ?_; intro v' Wz ob gra hva; replace q := q.grown gra q.size (fun g hg => by simp [Value.ownBlock] at hg); replace qS := qS.grown gra qS.size (fun g hg => by simp [Value.ownBlock] at hg); clear hva gra; replace ob : OwnsT pE 2 Wz w.heap.size 68 v' [((4 : Int), way)] := ob; obtain ⟨a3, c3, rfl, hc3⟩ := (ob.reads pEnc).form rfl)
  refine LL.val (R.assign rfl rfl) rfl rfl rfl ?_
  refine LL.nilS ?_
  refine CC.seq ?_
  refine CC.region ?_
  refine LL.val (R.move rfl rfl) rfl rfl rfl ?_
  refine LL.val (R.move rfl rfl) rfl rfl rfl ?_
  (refine LL.call (R.call rfl rfl rfl) rfl rfl rfl (down_any os _ _ (ooF _ qS) hl hr) ?_; rintro e W361 ⟨v7, rfl, o7, b358⟩; refine ⟨_, rfl, ?_⟩; obtain ⟨a7, c7, rfl, hc7⟩ := (o7.reads pEnc).form rfl)
  have zb358 := b358.size
  replace q := q.trans (b358.mono q.size)
  replace qS := qS.trans (b358.mono qS.size)
  replace ob := ob.up b358
  (refine LL.appendT2 rfl rfl pEnc ElPut ob (us := movP os) (o7.reads pEnc) (by simp [maxLen]; omega) (by simp; omega) (by have := q.size; omega) rfl rfl ?_; intro v' Wz oc gra hva; replace q := q.grown gra q.size (fun g hg => by have := own_ge ob g hg; omega); clear o7 hva gra)
  refine LL.val (R.assign rfl rfl) rfl rfl rfl ?_
  refine LL.val (R.assign rfl rfl) rfl rfl rfl ?_
  refine LL.nilS ?_
  refine CC.ret ?_
  refine EE.ret _ rfl rfl ?_
  exact ⟨_, rfl, oc, q⟩
end Go.Proofs.Ytfplilpefhhpnaa
/- node: Put (written by gennd15.py). -/
namespace Go.Proofs.Ytfplilpefhhpnaa
set_option linter.unusedVariables false
set_option linter.unusedSimpArgs false
open Go.RowKit Go.Shelf
set_option maxRecDepth 100000
set_option maxHeartbeats 8000000
theorem nPut_other (v : Value) (ws : List Nat) (w : World) (hv : ReadsT uE 1 w v ws) (hn : ws.length = 64) (hb : ∀ x ∈ ws, x < 18446744073709551616) (hS : nodeS ws) (k p : Nat) (h1 : okP (gw ws 0 % 256) p) (h2 : okK (gw ws 0 % 256) (gw ws 2) k) (hw : gw ws 4 ≠ 1) (os : List Pt) (hp : putF (gw ws 3) (ws.drop 8) k p = (0, os)) (hl : os.length ≤ 2000) (hr : ∀ p ∈ os, 0 ≤ p.1 ∧ p.1 ≤ 1000) : Calls Try.prog 27 #[v, prV k p] w fun e w' => ∃ v', e = .returned (.tuple #[v', .int .i64 0]) ∧ OwnsT pE 2 w' w.heap.size 68 v' (((4 : Int), 1) :: movP os) ∧ Below w.heap.size w w' := by
  have q := Below.refl w.heap.size w
  obtain ⟨bk, off, c, rfl, hc⟩ := sl64 hv hn
  have hfp := fun W (b : Below w.heap.size w W) => forPair_yes 64 _ ws W (hv.up b) hn hb hS k p h1 h2
  have hs : ∀ W, Below w.heap.size w W → ReadsT uE 1 W (.slice (some ⟨bk, off + 8 * 1, none⟩) (64 - 8) (c - 8)) (ws.drop 8) := fun W b => by
    have := ((uE_reads hv).below b).from 8 (by decide)
    rw [show (ints .u64 ws).drop 8 = ints .u64 (ws.drop 8) by simp [ints]] at this
    exact reads_uE this
  have hd8 : (ws.drop 8).length = 56 := by rw [List.length_drop, hn]
  have hpc := fun gp W (b : Below w.heap.size w W) (r : RowL W gp 46 [.int .u64 (k : Int), .int .u64 (p : Int)]) => putC_any (gw ws 3) 56 k p gp _ (ws.drop 8) W (hs W b) hd8 (by decide) r
  rw [hp] at hpc
  have hw4 : gw ws 4 ≤ 2 := hS.1.2.d
  clear hv hb hS h1 h2 hs hp
  refine X.fn Try.func27 rfl (n := 21) rfl rfl ?_
  refine CC.seq ?_
  refine CC.region ?_
  refine LL.box [Value.int IntKind.u64 ↑k, Value.int IntKind.u64 ↑p] rfl rfl rfl rfl rfl ?_
  intro W16 g17 eg17 r18 z19 b15
  replace q := q.trans (b15.mono q.size)
  refine LL.val (R.assign rfl rfl) rfl rfl rfl ?_
  refine LL.val (R.assign rfl rfl) rfl rfl rfl ?_
  refine LL.nilS ?_
  refine CC.seq ?_
  refine CC.region ?_
  refine LL.val (R.move rfl rfl) rfl rfl rfl ?_
  refine LL.val (R.load rfl rfl (I.ldNc (vs := [Value.int IntKind.u64 ↑k, Value.int IntKind.u64 ↑p]) (RowL.cells r18 rfl) (by rfl) (by rfl))) rfl rfl rfl ?_
  have l88 := r18.lt
  (refine LL.call (R.call rfl rfl rfl) rfl rfl rfl (hfp _ q) ?_; rintro e W87 ⟨⟨vo, rfl, oo⟩, b84⟩; refine ⟨_, rfl, ?_⟩; obtain ⟨av, cv, rfl, hcv⟩ := (oo.reads prEnc).form rfl; clear oo)
  have zb84 := b84.size
  replace r18 := r18.up b84
  replace b15 := b15.trans (b84.mono b15.size)
  replace q := q.trans (b84.mono q.size)
  refine LL.val (R.move rfl rfl) rfl rfl rfl ?_
  refine LL.val (R.extract rfl rfl rfl) rfl rfl rfl ?_
  refine LL.val (R.extract rfl rfl rfl) rfl rfl rfl ?_
  have l156 := r18.lt
  refine LL.alloc ([Value.int IntKind.i64 0, Value.int IntKind.i64 0, Value.int IntKind.u64 0, Value.int IntKind.u64 0, Value.int IntKind.i64 0, Value.slice none 0 0, Value.slice none 0 0]) rfl rfl rfl rfl rfl ?_
  intro W158 g159 eg159 r160 z161 b157
  replace b84 := b84.trans (b157.mono b84.size)
  replace r18 := r18.up b157
  replace b15 := b15.trans (b157.mono b15.size)
  replace q := q.trans (b157.mono q.size)
  refine LL.storeN (vs := [Value.int IntKind.i64 ↑(gw ws 0 % 256), Value.int IntKind.i64 ↑(gw ws 1), Value.int IntKind.u64 ↑(gw ws 2), Value.int IntKind.u64 ↑(gw ws 3), Value.int IntKind.i64 ↑(gw ws 4), Value.slice av (readF (gw ws 3) (List.drop 8 ws)).length cv, Value.slice (some { block := bk, off := off }) 64 c]) rfl rfl rfl rfl r160 (by exact Nat.le_of_ble_eq_true rfl) (ones_of rfl) rfl rfl ?_
  intro W181 r182 b180 z183
  have hlb180 := r160.lt
  replace r182 : RowL W181 _ 70 [Value.int IntKind.i64 ↑(gw ws 0 % 256), Value.int IntKind.i64 ↑(gw ws 1), Value.int IntKind.u64 ↑(gw ws 2), Value.int IntKind.u64 ↑(gw ws 3), Value.int IntKind.i64 ↑(gw ws 4), Value.slice av (readF (gw ws 3) (List.drop 8 ws)).length cv, Value.slice (some { block := bk, off := off }) 64 c] := r182
  clear r160
  replace b157 := b157.grown b180 b157.size (by rintro k ⟨⟩; omega)
  replace b84 := b84.grown b180 b84.size (by rintro k ⟨⟩; omega)
  replace r18 := r18.gr b180 (by have := r18.lt; omega)
  replace b15 := b15.grown b180 b15.size (by rintro k ⟨⟩; omega)
  replace q := q.grown b180 q.size (by rintro k ⟨⟩; omega)
  have r160 := r182
  clear r182
  refine LL.val (R.assign rfl rfl) rfl rfl rfl ?_
  refine LL.nilS ?_
  refine CC.seq ?_
  refine CC.seq ?_
  refine CC.region ?_
  refine LL.val (R.move rfl rfl) rfl rfl rfl ?_
  refine LL.val (R.neF rfl rfl rfl (by omega)) rfl rfl rfl ?_
  refine LL.nilS ?_
  refine CC.no rfl ?_
  refine CC.skip ?_
  refine EE.thenN ?_
  refine CC.seq ?_
  refine CC.region ?_
  refine LL.val (R.func rfl rfl rfl) rfl rfl rfl ?_
  have l269 := r18.lt
  have l270 := r160.lt
  (refine LL.call (R.call rfl rfl rfl) rfl rfl rfl (change_other _ _ _ _ _ _ 1 _ bk off c _ _ rfl _ hc (by assumption) os hl hr hw ⟨hw4, by omega⟩ (fun W' b => hpc _ W' (q.trans (b.mono q.size)) (RowL.up (by assumption) b))) ?_; rintro e W268 ⟨v9, rfl, o9, b265⟩; refine ⟨_, rfl, ?_⟩; obtain ⟨a9, c9, rfl, hc9⟩ := (o9.reads pEnc).form rfl)
  have zb265 := b265.size
  replace b157 := b157.trans (b265.mono b157.size)
  replace b84 := b84.trans (b265.mono b84.size)
  replace r18 := r18.up b265
  replace b15 := b15.trans (b265.mono b15.size)
  replace q := q.trans (b265.mono q.size)
  replace r160 := r160.up b265
  refine LL.val (R.extract rfl rfl rfl) rfl rfl rfl ?_
  refine LL.val (R.extract rfl rfl rfl) rfl rfl rfl ?_
  refine LL.val (R.assign rfl rfl) rfl rfl rfl ?_
  refine LL.val (R.assign rfl rfl) rfl rfl rfl ?_
  refine LL.nilS ?_
  refine CC.ret ?_
  refine EE.ret _ rfl rfl ?_
  exact ⟨_, rfl, OwnsT.lower (by assumption) (by omega), q⟩
end Go.Proofs.Ytfplilpefhhpnaa
/- node: the words of a split, behind so many of its stores: the mathematics. -/
namespace Go.Proofs.Ytfplilpefhhpnaa
set_option linter.unusedVariables false
set_option linter.unusedSimpArgs false
open Go.RowKit Go.Shelf
set_option maxRecDepth 100000
set_option maxHeartbeats 8000000
theorem slP_cons (a b : Nat) (r : List Nat) : slP (a :: b :: r) = (a, b) :: slP r := by
  unfold slP
  rw [show (a :: b :: r).length / 2 = r.length / 2 + 1 by simp only [List.length_cons]; omega, List.range_succ_eq_map, List.map_cons, List.map_map]
  congr 1
theorem slP_flP (Z : List Nat) : ∀ P : List Pr, slP (flP P ++ Z) = P ++ slP Z
  | [] => rfl
  | p :: P => by
    show slP (p.1 :: p.2 :: (flP P ++ Z)) = _
    rw [slP_cons, slP_flP Z P]
    rfl
theorem slP_zero (n : Nat) : ∀ z ∈ slP (List.replicate n 0), z.2 = 0 := by
  intro z hz
  obtain ⟨j, hj, rfl⟩ := List.mem_map.1 hz
  show ptrN _ j = 0
  unfold ptrN
  rw [List.getElem?_replicate]
  split <;> rfl
theorem layW_drop {h : List Nat} {ps : List Pr} (hh : h.length = 8) : (layW h ps).drop 8 = flP ps ++ List.replicate (56 - 2 * ps.length) 0 := by
  unfold layW
  rw [List.append_assoc, List.drop_left' hh]
theorem lay_stl {le : Nat} {h : List Nat} {ps : List Pr} (hh : h.length = 8) (hp : ps.length ≤ 27) (hB : okB le ps) : Stl le ((layW h ps).drop 8) ps.length := by
  rw [layW_drop hh]
  refine stl_of (slP_flP _ ps) hB ?_ (slP_zero _)
  intro e
  have := congrArg List.length e
  rw [slP_len, List.length_replicate] at this
  simp at this
  omega
theorem stl_read {le n : Nat} {s : List Nat} (h : Stl le s n) (hr : ¬ noRow le s.length) : readF le s = preP s n := by
  rw [readF_row hr, h.pairP]
  rfl
theorem lay_read {le : Nat} {h : List Nat} {ps : List Pr} (hh : h.length = 8) (hp : ps.length ≤ 27) (hB : okB le ps) (hle : le ≠ 0) : readF le ((layW h ps).drop 8) = ps := by
  have hl : ((layW h ps).drop 8).length = 56 := by rw [List.length_drop, layW_len hh (by omega)]
  have hS := lay_stl (h := h) hh hp hB
  rw [stl_read hS (by rw [hl]; unfold noRow; omega)]
  have e := slP_split ((layW h ps).drop 8) (d := ps.length) (by rw [hl]; omega)
  rw [layW_drop hh] at e ⊢
  rw [slP_flP] at e
  exact (List.append_inj_left e (by rw [preP_len])).symm
theorem ptrN_set {s : List Nat} {n j : Nat} (h : 2 * n + 1 < s.length) : ptrN (s.set (2 * n + 1) 0) j = if j = n then 0 else ptrN s j := by
  unfold ptrN
  rw [List.getElem?_set]
  by_cases e : j = n
  · subst e
    rw [if_pos rfl, if_pos h, if_pos rfl]
    rfl
  · rw [if_neg (by omega), if_neg e]
theorem keyN_set {s : List Nat} {n j : Nat} : keyN (s.set (2 * n + 1) 0) j = keyN s j := by
  unfold keyN
  rw [List.getElem?_set, if_neg (by omega)]
theorem cut_stl {left n : Nat} {s : List Nat} (h : Stl left s (n + 1)) : Stl left (s.set (2 * n + 1) 0) n := by
  have hl := h.lt
  have hp : ∀ j, ptrN (s.set (2 * n + 1) 0) j = if j = n then 0 else ptrN s j := fun j => ptrN_set (by omega)
  refine ⟨by rw [List.length_set]; omega, fun j hj => ?_, fun j h1 h2 => ?_, fun j hj => ?_, fun i j hij hj => ?_, fun j hj => ?_⟩
  · rw [hp, if_neg (by omega)]
    exact h.ne j (by omega)
  · rw [List.length_set] at h2
    rw [hp]
    split
    · rfl
    · exact h.z j (by omega) h2
  · rw [hp, if_neg (by omega)]
    exact h.nl j (by omega)
  · rw [hp, hp, if_neg (by omega), if_neg (by omega)]
    exact h.dis i j hij (by omega)
  · rw [keyN_set, keyN_set]
    exact h.up j (by omega)
/-- A row whose last pointers are made zero. -/
def zrS (s : List Nat) (N : Nat) : Nat → List Nat
  | 0 => s
  | t + 1 => (zrS s N t).set (2 * (N - 1 - t) + 1) 0
theorem zrS_len (s : List Nat) (N : Nat) : ∀ t, (zrS s N t).length = s.length
  | 0 => rfl
  | t + 1 => by
    show ((zrS s N t).set _ _).length = _
    rw [List.length_set, zrS_len s N t]
theorem zrS_stl {left N : Nat} {s : List Nat} (h : Stl left s N) : ∀ {t}, t ≤ N → Stl left (zrS s N t) (N - t) ∧ preP (zrS s N t) (N - t) = (preP s N).take (N - t)
  | 0, _ => ⟨h, by rw [List.take_of_length_le (by rw [preP_len]; omega)]; rfl⟩
  | t + 1, ht => by
    obtain ⟨h1, h2⟩ := zrS_stl h (t := t) (by omega)
    obtain ⟨n, hn⟩ : ∃ n, N - t = n + 1 := ⟨N - t - 1, by omega⟩
    rw [hn] at h1 h2
    have e : zrS s N (t + 1) = (zrS s N t).set (2 * n + 1) 0 := by
      show (zrS s N t).set (2 * (N - 1 - t) + 1) 0 = _
      rw [show N - 1 - t = n by omega]
    rw [e, show N - (t + 1) = n by omega]
    refine ⟨cut_stl h1, ?_⟩
    have h3 := congrArg (List.take n) h2
    rw [List.take_take, Nat.min_eq_left (by omega), preP_succ, List.take_left' (preP_len _ _)] at h3
    rw [← h3]
    refine List.map_congr_left fun j hj => ?_
    have hj := List.mem_range.1 hj
    have hl := h1.lt
    unfold prA
    rw [keyN_set, ptrN_set (by omega), if_neg (by omega)]
theorem set_drop8 (ws : List Nat) (i x : Nat) : (ws.set (8 + i) x).drop 8 = (ws.drop 8).set i x := by
  rw [List.drop_set, if_neg (by omega)]
  congr 1
  omega
theorem gw_set {ws : List Nat} {i j x : Nat} (h : i ≠ j) : gw (ws.set i x) j = gw ws j := by
  unfold gw
  rw [List.getD_eq_getElem?_getD, List.getElem?_set, if_neg h, List.getD_eq_getElem?_getD]
theorem gw_set_eq {ws : List Nat} {i x : Nat} (h : i < ws.length) : gw (ws.set i x) i = x := by
  unfold gw
  rw [List.getD_eq_getElem?_getD, List.getElem?_set, if_pos rfl, if_pos h]
  rfl
theorem spl_drop {ws : List Nat} {blk N : Nat} : ∀ t, (applyS ws (splN blk N t)).drop 8 = zrS (ws.drop 8) N t
  | 0 => by
    show (ws.set 1 blk).drop 8 = ws.drop 8
    rw [List.drop_set, if_pos (by omega)]
  | t + 1 => by
    rw [splN_succ, applyS_app]
    show ((applyS ws (splN blk N t)).set ((8 + ((2 * (N - 1 - t) : Nat) : Int) + 1 : Int)).toNat 0).drop 8 = _
    rw [show ((8 + ((2 * (N - 1 - t) : Nat) : Int) + 1 : Int)).toNat = 8 + (2 * (N - 1 - t) + 1) by omega, set_drop8, spl_drop t]
    rfl
theorem spl_gw {ws : List Nat} {blk N i : Nat} (h64 : ws.length = 64) (hi : i < 8) : ∀ t, gw (applyS ws (splN blk N t)) i = if i = 1 then blk else gw ws i
  | 0 => by
    show gw (ws.set 1 blk) i = _
    by_cases e : i = 1
    · subst e
      rw [if_pos rfl, gw_set_eq (by omega)]
    · rw [if_neg e, gw_set (by omega)]
  | t + 1 => by
    rw [splN_succ, applyS_app]
    show gw ((applyS ws (splN blk N t)).set ((8 + ((2 * (N - 1 - t) : Nat) : Int) + 1 : Int)).toNat 0) i = _
    rw [gw_set (by omega), spl_gw h64 hi t]
theorem splN_take (blk N T t : Nat) (h : t ≤ T) : (splN blk N T).take (t + 1) = splN blk N t := by
  unfold splN
  rw [List.take_succ_cons, ← List.map_take, List.take_range, Nat.min_eq_left h]
/-- The node behind so many of a split's stores. -/
structure AtK (ws ws' : List Nat) (ps : List Pr) (N blk k : Nat) : Prop where
  len : ws'.length = 64
  p : nodeP ws'
  g0 : gw ws' 0 = gw ws 0
  g2 : gw ws' 2 = gw ws 2
  g3 : gw ws' 3 = gw ws 3
  g1 : 0 < k → gw ws' 1 = blk
  r : readF (gw ws 3) (ws'.drop 8) = ps.take (N - (k - 1))
theorem atK {ws : List Nat} {ps : List Pr} {N blk T k : Nat} (hS : nodeS ws) (eps : readF (gw ws 3) (ws.drop 8) = ps) (hN : ps.length = N) (hb : 1 ≤ blk ∧ blk ≤ 2047) (hT : T ≤ N) (hk : k ≤ T + 1) : AtK ws (applyS ws ((splN blk N T).take k)) ps N blk k := by
  have h64 := hS.1.1
  have h8 : (ws.drop 8).length = 56 := by rw [List.length_drop, h64]
  have hrow : ¬ noRow (gw ws 3) 56 := hd_row hS.1.2 rfl
  obtain ⟨n, hs⟩ := setP_iff.1 hS.2.1
  have e1 := stl_read hs (by rw [h8]; exact hrow)
  obtain rfl : n = N := by
    rw [← hN, ← eps, e1, preP_len]
  rw [e1] at eps
  cases k with
  | zero =>
    rw [List.take_zero]
    refine ⟨h64, hS.1, rfl, rfl, rfl, fun h => absurd h (by omega), ?_⟩
    show readF (gw ws 3) (ws.drop 8) = _
    rw [e1, eps, List.take_of_length_le (by omega)]
  | succ t =>
    rw [splN_take _ _ _ _ (by omega)]
    have hg := fun i (hi : i < 8) => spl_gw (blk := blk) (N := n) h64 hi t
    have hl : (applyS ws (splN blk n t)).length = 64 := by rw [applyS_len, h64]
    have z := zrS_stl hs (t := t) (by omega)
    refine ⟨hl, ⟨hl, ?_⟩, hg 0 (by omega), hg 2 (by omega), hg 3 (by omega), fun _ => hg 1 (by omega), ?_⟩
    · have h := hS.1.2
      rw [hg 0 (by omega), hg 1 (by omega), hg 3 (by omega), hg 4 (by omega), hg 5 (by omega), hg 6 (by omega), hg 7 (by omega)]
      exact ⟨h.a, hb.2, h.c, h.d, h.e, h.f, h.g⟩
    · rw [spl_drop, stl_read z.1 (by rw [zrS_len, h8]; exact hrow), z.2, eps]
      rfl
/-- The new node of a split. -/
structure UpK (ws U : List Nat) (ps : List Pr) (k p m : Nat) : Prop where
  len : U.length = 64
  lt : ∀ x ∈ U, x < 18446744073709551616
  nd : nodeP U
  g0 : gw U 0 % 256 = gw ws 0 % 256
  g1 : gw U 1 = gw ws 1
  g2 : gw U 2 = k
  l0 : gw ws 0 % 256 = 0 → readF (gw U 3) (U.drop 8) = ps.drop m
  l1 : 0 < gw ws 0 % 256 → gw U 3 = p ∧ readF (gw U 3) (U.drop 8) = ps.drop (m + 1)
theorem okB_drop {le : Nat} {B : List Pr} (h : okB le B) (m : Nat) : okB le (B.drop m) := ⟨fun x hx => h.1 x (List.mem_of_mem_drop hx), h.2.sublist (List.drop_sublist m B)⟩
theorem okB_next {le m k p : Nat} {B : List Pr} (h : okB le B) (hx : B[m]? = some (k, p)) : okB p (B.drop (m + 1)) := by
  have e : B.drop m = (k, p) :: B.drop (m + 1) := by
    obtain ⟨hm, e⟩ := List.getElem?_eq_some_iff.1 hx
    rw [← e, List.drop_eq_getElem_cons hm]
  have h2 := (okB_drop h m).2
  rw [e] at h2
  exact ⟨fun x hx => ⟨((okB_drop h (m + 1)).1 x hx).1, fun e => ((List.pairwise_cons.1 h2).1 x hx).2 e.symm⟩, (List.pairwise_cons.1 h2).2⟩
theorem upKs {ws : List Nat} {ps : List Pr} {N k p m : Nat} (hS : nodeS ws) (hb : ∀ x ∈ ws, x < 18446744073709551616) (eps : readF (gw ws 3) (ws.drop 8) = ps) (hN : ps.length = N) (hx : ps[m]? = some (k, p)) (hp64 : ∀ x ∈ ps, x.1 < 18446744073709551616 ∧ x.2 < 18446744073709551616) : UpK ws (upW ws ps k p m) ps k p m := by
  have h64 := hS.1.1
  have h8 : (ws.drop 8).length = 56 := by rw [List.length_drop, h64]
  have hrow : ¬ noRow (gw ws 3) 56 := hd_row hS.1.2 rfl
  obtain ⟨n, hs⟩ := setP_iff.1 hS.2.1
  have e1 := stl_read hs (by rw [h8]; exact hrow)
  obtain rfl : n = N := by
    rw [← hN, ← eps, e1, preP_len]
  have hok : ∀ x ∈ ps, okP (gw ws 0 % 256) x.2 := fun x hx => (hS.2.2 x (by rw [eps]; exact hx)).1
  have hB : okB (gw ws 3) ps := by
    have := okB_pre hs
    rw [e1] at eps
    rw [eps] at this
    exact this
  have hn := hs.lt
  rw [h8] at hn
  have ha := hS.1.2.a
  have hc := hS.1.2.c
  unfold ru1 at ha
  unfold ru3 at hc
  have hmem := List.mem_of_getElem? hx
  have hkp := hp64 _ hmem
  have hpo := hok _ hmem
  unfold okP at hpo
  simp only at hkp hpo
  have hs1 : gw ws 1 ≤ 2047 := hS.1.2.b
  obtain ⟨l, hl⟩ : ∃ l, gw ws 0 % 256 = l := ⟨_, rfl⟩
  unfold upW
  rw [hl] at ha hc hpo ⊢
  by_cases h0 : l = 0
  · rw [if_pos h0, if_pos h0]
    have hle : gw ws 3 = 9223372036854775808 := by omega
    have hlen : (layW (layH (7522529147838689024 + l) (gw ws 1) k 9223372036854775808 0) (ps.drop m)).length = 64 := layW_len rfl (by rw [List.length_drop]; omega)
    refine ⟨hlen, layW_lt (fun x hx => ?_) (fun x hx => hp64 x (List.mem_of_mem_drop hx)), ⟨hlen, ⟨?_, hs1, ?_, Nat.zero_le _, rfl, rfl, rfl⟩⟩, ?_, rfl, rfl, fun _ => lay_read rfl (by rw [List.length_drop]; omega) (by show okB 9223372036854775808 _; rw [← hle]; exact okB_drop hB m) (by show (9223372036854775808 : Nat) ≠ 0; decide), fun h => absurd h (by omega)⟩
    · simp only [List.mem_cons, List.not_mem_nil, or_false] at hx
      omega
    · show (7522529147838689024 + l) / 256 * 256 = 7522529147838689024 ∧ (7522529147838689024 + l) % 256 ≤ 12
      omega
    · show ((7522529147838689024 + l) % 256 = 0 ∧ (9223372036854775808 : Nat) = 9223372036854775808) ∨ _
      exact .inl ⟨by omega, rfl⟩
    · show (7522529147838689024 + l) % 256 = _
      omega
  · rw [if_neg h0, if_neg h0]
    have hlen : (layW (layH (7522529147838689024 + l) (gw ws 1) k p 0) (ps.drop (m + 1))).length = 64 := layW_len rfl (by rw [List.length_drop]; omega)
    refine ⟨hlen, layW_lt (fun x hx => ?_) (fun x hx => hp64 x (List.mem_of_mem_drop hx)), ⟨hlen, ⟨?_, hs1, ?_, Nat.zero_le _, rfl, rfl, rfl⟩⟩, ?_, rfl, rfl, fun h => absurd h (by omega), fun _ => ⟨rfl, lay_read rfl (by rw [List.length_drop]; omega) (okB_next hB hx) (by show p ≠ 0; omega)⟩⟩
    · simp only [List.mem_cons, List.not_mem_nil, or_false] at hx
      omega
    · show (7522529147838689024 + l) / 256 * 256 = 7522529147838689024 ∧ (7522529147838689024 + l) % 256 ≤ 12
      omega
    · show _ ∨ (0 < (7522529147838689024 + l) % 256 ∧ 1 ≤ p ∧ p ≤ 2047)
      exact .inr (by omega)
    · show (7522529147838689024 + l) % 256 = _
      omega
end Go.Proofs.Ytfplilpefhhpnaa
/- ref01.Same over slices of words: whether two lists are the same. -/
namespace Go.Proofs.Ytfplilpefhhpnaa
set_option linter.unusedVariables false
set_option linter.unusedSimpArgs false
open Go.RowKit Go.Shelf
set_option maxRecDepth 100000
set_option maxHeartbeats 8000000
theorem usame_any (a1 a2 : Option Addr) (n1 n2 c1 c2 : Nat) (l1 l2 : List Nat) (w : World) (h1 : ReadsT uE 1 w (.slice a1 n1 c1) l1) (h2 : ReadsT uE 1 w (.slice a2 n2 c2) l2) (e1 : l1.length = n1) (e2 : l2.length = n2) (hN : n1 ≤ 1048576) (hN2 : n2 ≤ 1048576) :
    Calls Try.prog 17 #[.slice a1 n1 c1, .slice a2 n2 c2] w fun e w' => e = .returned (.bool (decide (l1 = l2))) ∧ Below w.heap.size w w' := by
  have q := Below.refl w.heap.size w
  have hF1 : ∀ W, Below w.heap.size w W → ReadsT uE 1 W (.slice a1 n1 c1) l1 := fun W hb => h1.up hb
  have hF2 : ∀ W, Below w.heap.size w W → ReadsT uE 1 W (.slice a2 n2 c2) l2 := fun W hb => h2.up hb
  clear h1 h2
  by_cases hn : n1 = n2
  case neg =>
    rw [decide_eq_false fun e => hn (by rw [← e1, ← e2, e])]
    refine X.fn Try.func17 rfl (n := 26) rfl rfl ?_
    refine CC.seq ?_
    refine CC.region ?_
    refine LL.val (R.assign rfl rfl) rfl rfl rfl ?_
    refine LL.nilS ?_
    refine CC.seq ?_
    refine CC.seq ?_
    refine CC.region ?_
    refine LL.val (R.move rfl rfl) rfl rfl rfl ?_
    refine LL.val (R.len rfl rfl rfl rfl) rfl rfl rfl ?_
    refine LL.val (R.move rfl rfl) rfl rfl rfl ?_
    refine LL.val (R.len rfl rfl rfl rfl) rfl rfl rfl ?_
    refine LL.val (R.neT rfl rfl rfl (by omega)) rfl rfl rfl ?_
    refine LL.nilS ?_
    refine CC.yes rfl ?_
    refine CC.seq ?_
    refine CC.region ?_
    refine LL.val (R.assign rfl rfl) rfl rfl rfl ?_
    refine LL.nilS ?_
    refine CC.ret ?_
    refine EE.thenR ?_
    refine EE.ret _ rfl rfl ?_
    exact ⟨rfl, q⟩
  subst hn
  refine X.fn Try.func17 rfl (n := 26) rfl rfl ?_
  refine CC.seq ?_
  refine CC.region ?_
  refine LL.val (R.assign rfl rfl) rfl rfl rfl ?_
  refine LL.nilS ?_
  refine CC.seq ?_
  refine CC.seq ?_
  refine CC.region ?_
  refine LL.val (R.move rfl rfl) rfl rfl rfl ?_
  refine LL.val (R.len rfl rfl rfl rfl) rfl rfl rfl ?_
  refine LL.val (R.move rfl rfl) rfl rfl rfl ?_
  refine LL.val (R.len rfl rfl rfl rfl) rfl rfl rfl ?_
  refine LL.val (R.neF rfl rfl rfl (by omega)) rfl rfl rfl ?_
  refine LL.nilS ?_
  refine CC.no rfl ?_
  refine CC.skip ?_
  refine EE.thenN ?_
  refine CC.seq ?_
  refine CC.seq ?_
  refine CC.region ?_
  refine LL.val (R.assign rfl rfl) rfl rfl rfl ?_
  refine LL.nilS ?_
  refine CC.block ?_
  refine CC.loop (α := Nat) (fun i => [(0, .slice a1 n1 c1), (1, .slice a2 n1 c2), (5, .int .i64 (i : Int))]) (fun i W => i ≤ n1 ∧ Below w.heap.size w W ∧ l1.take i = l2.take i) (fun i => n1 - i) 0 ⟨rfl, rfl, rfl, trivial⟩ ⟨by show 0 ≤ n1; omega, q, rfl⟩ ?_
  clear q
  rintro i W ⟨hi, q, ht⟩
  show CC none Try.prog _ 26 [] (sl [(0, .slice a1 n1 c1), (1, .slice a2 n1 c2), (5, .int .i64 (i : Int))]) _ W
  by_cases hlt : i < n1
  case neg =>
    obtain rfl : i = n1 := by omega
    rw [List.take_of_length_le (by omega), List.take_of_length_le (by omega)] at ht
    rw [decide_eq_true ht]
    refine CC.seq ?_
    refine CC.seq ?_
    refine CC.region ?_
    refine LL.val (R.move rfl rfl) rfl rfl rfl ?_
    refine LL.val (R.move rfl rfl) rfl rfl rfl ?_
    refine LL.val (R.len rfl rfl rfl rfl) rfl rfl rfl ?_
    refine LL.val (R.ltF rfl rfl rfl (by omega)) rfl rfl rfl ?_
    refine LL.nilS ?_
    refine CC.no rfl ?_
    refine CC.exit ?_
    refine EE.thenX ?_
    refine EE.thenX ?_
    refine EE.inX ?_
    refine EE.thenN ?_
    refine CC.seq ?_
    refine CC.region ?_
    refine LL.val (R.assign rfl rfl) rfl rfl rfl ?_
    refine LL.nilS ?_
    refine CC.ret ?_
    refine EE.ret _ rfl rfl ?_
    exact ⟨rfl, q⟩
  obtain ⟨x, hx⟩ : ∃ x, l1[i]? = some x := ⟨_, List.getElem?_eq_getElem (by omega)⟩
  obtain ⟨y, hy⟩ : ∃ y, l2[i]? = some y := ⟨_, List.getElem?_eq_getElem (by omega)⟩
  obtain ⟨b1, o1, rfl, k1, _⟩ := (hF1 W q).one uEnc hx
  obtain ⟨b2, o2, rfl, k2, _⟩ := (hF2 W q).one uEnc hy
  have m1 : ∀ W', Below w.heap.size w W' → W'.cell? ⟨b1, o1 + i, none⟩ = some (.int .u64 (x : Int)) := fun W' b => by
    obtain ⟨_, _, e, _, cs⟩ := (hF1 W' b).one uEnc hx
    cases e
    exact cs _ rfl
  have m2 : ∀ W', Below w.heap.size w W' → W'.cell? ⟨b2, o2 + i, none⟩ = some (.int .u64 (y : Int)) := fun W' b => by
    obtain ⟨_, _, e, _, cs⟩ := (hF2 W' b).one uEnc hy
    cases e
    exact cs _ rfl
  by_cases hxy : x = y
  · refine CC.seq ?_
    refine CC.seq ?_
    refine CC.region ?_
    refine LL.val (R.move rfl rfl) rfl rfl rfl ?_
    refine LL.val (R.move rfl rfl) rfl rfl rfl ?_
    refine LL.val (R.len rfl rfl rfl rfl) rfl rfl rfl ?_
    refine LL.val (R.ltT rfl rfl rfl (by omega)) rfl rfl rfl ?_
    refine LL.nilS ?_
    refine CC.yes rfl ?_
    refine CC.skip ?_
    refine EE.thenN ?_
    refine CC.seq ?_
    refine CC.block ?_
    refine CC.seq ?_
    refine CC.quietB (by kernel_rfl) (by kernel_rfl) (fun Wc2 bc1 zc3 => ?_)
    replace q := q.trans (bc1.mono q.size)
    refine SS.val (R.move rfl rfl) rfl rfl ?_
    refine SS.val (R.move rfl rfl) rfl rfl ?_
    refine SS.val (R.index rfl rfl rfl (I.ixS1 rfl (by omega))) rfl rfl ?_
    (refine SS.val (R.load rfl rfl (I.ld1 rfl (m1 _ q))) rfl rfl ?_)
    refine SS.val (R.move rfl rfl) rfl rfl ?_
    refine SS.val (R.move rfl rfl) rfl rfl ?_
    refine SS.val (R.index rfl rfl rfl (I.ixS1 rfl (by omega))) rfl rfl ?_
    (refine SS.val (R.load rfl rfl (I.ld1 rfl (m2 _ q))) rfl rfl ?_)
    refine SS.val (R.neF rfl rfl rfl (by omega)) rfl rfl ?_
    refine SS.nilQ ?_
    refine EE.thenN ?_
    refine CC.no rfl ?_
    refine CC.skip ?_
    refine EE.inN ?_
    refine EE.thenN ?_
    refine CC.region ?_
    refine LL.val (R.move rfl rfl) rfl rfl rfl ?_
    refine LL.val (R.addNc rfl rfl rfl rfl (by omega)) rfl rfl rfl ?_
    refine LL.val (R.assign rfl rfl) rfl rfl rfl ?_
    refine LL.nil ?_
    exact EE.round (i + 1) ⟨rfl, rfl, rfl, trivial⟩ ⟨by show i + 1 ≤ n1; omega, q, by rw [List.take_add_one, List.take_add_one, hx, hy, ht, hxy]⟩ (by show n1 - (i + 1) < n1 - i; omega)
  · rw [decide_eq_false (fun e => hxy (by rw [e, hy] at hx; exact (Option.some.inj hx).symm))]
    refine CC.seq ?_
    refine CC.seq ?_
    refine CC.region ?_
    refine LL.val (R.move rfl rfl) rfl rfl rfl ?_
    refine LL.val (R.move rfl rfl) rfl rfl rfl ?_
    refine LL.val (R.len rfl rfl rfl rfl) rfl rfl rfl ?_
    refine LL.val (R.ltT rfl rfl rfl (by omega)) rfl rfl rfl ?_
    refine LL.nilS ?_
    refine CC.yes rfl ?_
    refine CC.skip ?_
    refine EE.thenN ?_
    refine CC.seq ?_
    refine CC.block ?_
    refine CC.seq ?_
    refine CC.quietB (by kernel_rfl) (by kernel_rfl) (fun Wd2 bd1 zd3 => ?_)
    replace q := q.trans (bd1.mono q.size)
    refine SS.val (R.move rfl rfl) rfl rfl ?_
    refine SS.val (R.move rfl rfl) rfl rfl ?_
    refine SS.val (R.index rfl rfl rfl (I.ixS1 rfl (by omega))) rfl rfl ?_
    (refine SS.val (R.load rfl rfl (I.ld1 rfl (m1 _ q))) rfl rfl ?_)
    refine SS.val (R.move rfl rfl) rfl rfl ?_
    refine SS.val (R.move rfl rfl) rfl rfl ?_
    refine SS.val (R.index rfl rfl rfl (I.ixS1 rfl (by omega))) rfl rfl ?_
    (refine SS.val (R.load rfl rfl (I.ld1 rfl (m2 _ q))) rfl rfl ?_)
    refine SS.val (R.neT rfl rfl rfl (by omega)) rfl rfl ?_
    refine SS.nilQ ?_
    refine EE.thenN ?_
    refine CC.yes rfl ?_
    refine CC.seq ?_
    refine CC.region ?_
    refine LL.val (R.assign rfl rfl) rfl rfl rfl ?_
    refine LL.nilS ?_
    refine CC.ret ?_
    refine EE.inR ?_
    refine EE.thenR ?_
    refine EE.thenR ?_
    refine EE.inR ?_
    refine EE.thenR ?_
    refine EE.ret _ rfl rfl ?_
    exact ⟨rfl, q⟩
theorem usame_d (v1 v2 : Value) (l1 l2 : List Nat) (w : World) (h1 : ReadsT uE 1 w v1 l1) (h2 : ReadsT uE 1 w v2 l2) (hN : l1.length ≤ 1048576) (hN2 : l2.length ≤ 1048576) : Calls Try.prog 17 #[v1, v2] w fun e w' => e = .returned (.bool (decide (l1 = l2))) ∧ Below w.heap.size w w' := by
  obtain ⟨a1, c1, rfl, _⟩ := h1.form rfl
  obtain ⟨a2, c2, rfl, _⟩ := h2.form rfl
  exact usame_any a1 a2 _ _ c1 c2 l1 l2 w h1 h2 rfl rfl hN hN2
theorem usame_T (v1 v2 : Value) (l : List Nat) (w : World) (h1 : ReadsT uE 1 w v1 l) (h2 : ReadsT uE 1 w v2 l) (hN : l.length ≤ 1048576) : Calls Try.prog 17 #[v1, v2] w fun e w' => e = .returned (.bool true) ∧ Below w.heap.size w w' := by
  have := usame_d v1 v2 l l w h1 h2 hN hN
  rwa [decide_eq_true rfl] at this
end Go.Proofs.Ytfplilpefhhpnaa
/- node: the laws' own functions: num, leaf, lent, works (written by gennd17.py). -/
namespace Go.Proofs.Ytfplilpefhhpnaa
set_option linter.unusedVariables false
set_option linter.unusedSimpArgs false
open Go.RowKit Go.Shelf
set_option maxRecDepth 100000
set_option maxHeartbeats 8000000
theorem num11_any (z : Int) (w : World) : Calls Try.prog 12 #[.int .i64 z] w fun e w' => e = .returned (.int .i64 z) ∧ w = w' := by
  refine X.fn Try.func12 rfl (n := 4) rfl rfl ?_
  refine CC.seq ?_
  refine CC.region ?_
  refine LL.val (R.assign rfl rfl) rfl rfl rfl ?_
  refine LL.nilS ?_
  refine CC.seq ?_
  refine CC.region ?_
  refine LL.val (R.move rfl rfl) rfl rfl rfl ?_
  refine LL.val (R.assign rfl rfl) rfl rfl rfl ?_
  refine LL.nilS ?_
  refine CC.ret ?_
  refine EE.ret _ rfl rfl ?_
  exact ⟨rfl, rfl⟩
theorem leaf_any (w : World) : Calls Try.prog 26 #[] w fun e w' => ∃ g, e = .returned (nodeV 0 0 5 9223372036854775808 0 (.slice (some ⟨g, 0, none⟩) 2 2)) ∧ RowL w' g 46 [.int .u64 5, .int .u64 1, .int .u64 9, .int .u64 2] ∧ w.heap.size ≤ g ∧ Below w.heap.size w w' := by
  have q := Below.refl w.heap.size w
  refine X.fn Try.func26 rfl (n := 5) rfl rfl ?_
  refine CC.seq ?_
  refine CC.region ?_
  refine LL.alloc ([Value.int IntKind.i64 0, Value.int IntKind.i64 0, Value.int IntKind.u64 0, Value.int IntKind.u64 0, Value.int IntKind.i64 0, Value.slice none 0 0]) rfl rfl rfl rfl rfl ?_
  intro W2 g3 eg3 r4 z5 b1
  replace q := q.trans (b1.mono q.size)
  refine LL.nilS ?_
  refine CC.seq ?_
  refine CC.region ?_
  refine LL.val (R.buildV rfl rfl (v := .agg #[Value.int IntKind.u64 5, Value.int IntKind.u64 1]) (fun _ => by kernel_rfl)) rfl rfl rfl ?_
  refine LL.val (R.buildV rfl rfl (v := .agg #[Value.int IntKind.u64 9, Value.int IntKind.u64 2]) (fun _ => by kernel_rfl)) rfl rfl rfl ?_
  have l6 := r4.lt
  refine LL.lit (e := 46) [Value.int IntKind.u64 5, Value.int IntKind.u64 1, Value.int IntKind.u64 9, Value.int IntKind.u64 2] 2 rfl rfl (fun _ => by kernel_rfl) rfl rfl ?_
  intro W8 g9 eg9 r10 z11 b7
  replace r4 := r4.up b7
  replace b1 := b1.trans (b7.mono b1.size)
  replace q := q.trans (b7.mono q.size)
  refine LL.val (R.buildV rfl rfl (v := .agg #[Value.int IntKind.i64 0, Value.int IntKind.i64 0, Value.int IntKind.u64 5, Value.int IntKind.u64 9223372036854775808, Value.int IntKind.i64 0, Value.slice (some { block := g9, off := 0 }) 2 2]) (fun _ => by kernel_rfl)) rfl rfl rfl ?_
  refine LL.storeN (vs := [Value.int IntKind.i64 0, Value.int IntKind.i64 0, Value.int IntKind.u64 5, Value.int IntKind.u64 9223372036854775808, Value.int IntKind.i64 0, Value.slice (some { block := g9, off := 0 }) 2 2]) rfl rfl rfl rfl r4 (by exact Nat.le_of_ble_eq_true rfl) (ones_of rfl) rfl rfl ?_
  intro W13 r14 b12 z15
  have hlb12 := r4.lt
  replace r14 : RowL W13 _ 29 [Value.int IntKind.i64 0, Value.int IntKind.i64 0, Value.int IntKind.u64 5, Value.int IntKind.u64 9223372036854775808, Value.int IntKind.i64 0, Value.slice (some { block := g9, off := 0 }) 2 2] := r14
  clear r4
  replace r10 := r10.gr b12 (by have := r10.lt; omega)
  replace b1 := b1.grown b12 b1.size (by rintro k ⟨⟩; omega)
  replace q := q.grown b12 q.size (by rintro k ⟨⟩; omega)
  have r4 := r14
  clear r14
  refine LL.nilS ?_
  refine CC.ret ?_
  refine EE.retC rfl rfl (lvNc (RowL.cells0 (by assumption)) (by rfl) (by rfl)) ?_
  exact ⟨_, rfl, by assumption, by omega, q⟩
abbrev psC : List Pr := [(5, 1), (9, 2)]
abbrev wsC : List Nat := layW (layH (7522529147838689024 + 0) 0 5 9223372036854775808 0) psC
abbrev wsD : List Nat := layW (layH (7522529147838689024 + 0) 0 9 9223372036854775808 0) [(9, 2)]
theorem okB_dec {le : Nat} {B : List Pr} (h : (∀ x ∈ B, x.2 ≠ 0 ∧ x.2 ≠ le) ∧ B.Pairwise fun x y => x.1 < y.1 ∧ x.2 ≠ y.2) : okB le B := h
theorem okC : okB 9223372036854775808 psC := okB_dec (by decide +kernel)
theorem rdC : readF 9223372036854775808 (wsC.drop 8) = psC := lay_read rfl (by decide +kernel) okC (by decide +kernel)
theorem hdC (lo : Nat) (ps : List Pr) (h : ps.length ≤ 27) : nodeP (layW (layH (7522529147838689024 + 0) 0 lo 9223372036854775808 0) ps) := ⟨layW_len rfl (by omega), ⟨by show (7522529147838689024 + 0) / 256 * 256 = 7522529147838689024 ∧ (7522529147838689024 + 0) % 256 ≤ 12; decide, Nat.zero_le _, .inl ⟨by show (7522529147838689024 + 0) % 256 = 0; decide, rfl⟩, Nat.zero_le _, rfl, rfl, rfl⟩⟩
theorem stC : nodeS wsC := ⟨hdC 5 psC (by decide +kernel), setP_iff.2 ⟨2, lay_stl (h := layH (7522529147838689024 + 0) 0 5 9223372036854775808 0) (ps := psC) rfl (by decide +kernel) okC⟩, fun p hp => by
  have hp : p ∈ psC := by
    rw [← rdC]
    exact hp
  simp only [List.mem_cons, List.not_mem_nil, or_false] at hp
  rcases hp with rfl | rfl
  · exact ⟨.inl (by decide +kernel), .inr ⟨rfl, rfl⟩⟩
  · exact ⟨.inl (by decide +kernel), .inl (by decide +kernel)⟩⟩
theorem ltC : ∀ x ∈ wsC, x < 18446744073709551616 := by decide +kernel
theorem ltD : ∀ x ∈ wsD, x < 18446744073709551616 := by decide +kernel
abbrev osC : List Pt := [(7, 0), (5, 2), (4, 9), (3, 1), (2, 7), (3, 3)]
theorem putC_eq : putF 9223372036854775808 (wsC.drop 8) 7 3 = (0, osC) := by
  unfold putF
  rw [if_neg (show ¬ noRow 9223372036854775808 (wsC.drop 8).length by unfold noRow; decide +kernel), if_neg (by decide), if_neg (fun h => h stC.2.1), if_neg (fun ⟨j, hj, e⟩ => (by decide +kernel : ∀ j, j < overN (wsC.drop 8) → ptrN (wsC.drop 8) j ≠ 3) j hj e), if_neg (fun ⟨j, hj, e⟩ => (by decide +kernel : ∀ j, j < overN (wsC.drop 8) → keyN (wsC.drop 8) j ≠ 7) j hj e), if_neg (by decide)]
  rfl
end Go.Proofs.Ytfplilpefhhpnaa
