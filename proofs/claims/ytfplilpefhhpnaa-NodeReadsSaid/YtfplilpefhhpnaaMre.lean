/- What the statements' walks use: Nd20, Nd21, Nd22, Nd27, Nd8, Nd9, Nd10, Nd11, Nd12, Nd13, Nd14, Nd15, Nd16, SameU, Nd17, Nd17w, Nd18, Nd26, Nd23, Open, OpenI, SoS, ChildW. -/
import Derived.Test.YtfplilpefhhpnaaRows
import Derived.ProofKit
import Derived.OpenShut
import Derived.ShutString
import Derived.ChangeOld
import Derived.ChangeSame
import Derived.Test.YtfplilpefhhpnaaMra
import Derived.Test.YtfplilpefhhpnaaMrc
import Derived.Test.YtfplilpefhhpnaaMrd
/- node: the document's block, Right, Of (written by gennd20.py). -/
namespace Go.Proofs.Ytfplilpefhhpnaa
set_option linter.unusedVariables false
set_option linter.unusedSimpArgs false
open Go.RowKit Go.Shelf
set_option maxRecDepth 100000
set_option maxHeartbeats 8000000
theorem rblk_d (v : Nat) (w : World) : Calls Try.prog 29 #[.int .u64 (v : Int)] w fun e w' => e = .returned (.bool (decide (1 ≤ v ∧ v ≤ 2047))) ∧ w = w' := by
  by_cases h1 : 1 ≤ v
  · by_cases h2 : v ≤ 2047
    · rw [decide_eq_true ⟨h1, h2⟩]
      refine X.fn Try.func29 rfl (n := 9) rfl rfl ?_
      refine CC.seq ?_
      refine CC.region ?_
      refine LL.val (R.assign rfl rfl) rfl rfl rfl ?_
      refine LL.nilS ?_
      refine CC.seq ?_
      refine CC.region ?_
      refine LL.val (R.move rfl rfl) rfl rfl rfl ?_
      refine LL.val (R.geT rfl rfl rfl (by omega)) rfl rfl rfl ?_
      refine LL.val (R.move rfl rfl) rfl rfl rfl ?_
      refine LL.val (R.move rfl rfl) rfl rfl rfl ?_
      refine LL.val (R.leT rfl rfl rfl (by omega)) rfl rfl rfl ?_
      refine LL.val (R.pick rfl rfl rfl) rfl rfl rfl ?_
      refine LL.val (R.assign rfl rfl) rfl rfl rfl ?_
      refine LL.nilS ?_
      refine CC.ret ?_
      refine EE.ret _ rfl rfl ?_
      exact ⟨rfl, rfl⟩
    · rw [decide_eq_false fun h => h2 h.2]
      refine X.fn Try.func29 rfl (n := 9) rfl rfl ?_
      refine CC.seq ?_
      refine CC.region ?_
      refine LL.val (R.assign rfl rfl) rfl rfl rfl ?_
      refine LL.nilS ?_
      refine CC.seq ?_
      refine CC.region ?_
      refine LL.val (R.move rfl rfl) rfl rfl rfl ?_
      refine LL.val (R.geT rfl rfl rfl (by omega)) rfl rfl rfl ?_
      refine LL.val (R.move rfl rfl) rfl rfl rfl ?_
      refine LL.val (R.move rfl rfl) rfl rfl rfl ?_
      refine LL.val (R.leF rfl rfl rfl (by omega)) rfl rfl rfl ?_
      refine LL.val (R.pick rfl rfl rfl) rfl rfl rfl ?_
      refine LL.val (R.assign rfl rfl) rfl rfl rfl ?_
      refine LL.nilS ?_
      refine CC.ret ?_
      refine EE.ret _ rfl rfl ?_
      exact ⟨rfl, rfl⟩
  · rw [decide_eq_false fun h => h1 h.1]
    refine X.fn Try.func29 rfl (n := 9) rfl rfl ?_
    refine CC.seq ?_
    refine CC.region ?_
    refine LL.val (R.assign rfl rfl) rfl rfl rfl ?_
    refine LL.nilS ?_
    refine CC.seq ?_
    refine CC.region ?_
    refine LL.val (R.move rfl rfl) rfl rfl rfl ?_
    refine LL.val (R.geF rfl rfl rfl (by omega)) rfl rfl rfl ?_
    refine LL.val (R.move rfl rfl) rfl rfl rfl ?_
    refine LL.skip rfl rfl ?_
    refine LL.skip rfl rfl ?_
    refine LL.val (R.pick rfl rfl rfl) rfl rfl rfl ?_
    refine LL.val (R.assign rfl rfl) rfl rfl rfl ?_
    refine LL.nilS ?_
    refine CC.ret ?_
    refine EE.ret _ rfl rfl ?_
    exact ⟨rfl, rfl⟩
theorem rrt_any (l x : Nat) (b : Bool) (hb : b = true ↔ okP l x) (w : World) : Calls Try.prog 32 #[.int .i64 (l : Int), .int .u64 (x : Int)] w fun e w' => e = .returned (.bool b) ∧ w = w' := by
  unfold okP at hb
  by_cases h0 : l = 0
  · subst h0
    by_cases h1 : 1 ≤ x ∧ x ≤ 1099511627776
    · obtain rfl : b = true := hb.2 (.inl ⟨rfl, h1⟩)
      clear hb
      refine X.fn Try.func32 rfl (n := 15) rfl rfl ?_
      refine CC.seq ?_
      refine CC.region ?_
      refine LL.val (R.assign rfl rfl) rfl rfl rfl ?_
      refine LL.nilS ?_
      refine CC.seq ?_
      refine CC.seq ?_
      refine CC.region ?_
      refine LL.val (R.move rfl rfl) rfl rfl rfl ?_
      refine LL.val (R.eqT rfl rfl rfl (by omega)) rfl rfl rfl ?_
      refine LL.nilS ?_
      refine CC.yes rfl ?_
      refine CC.seq ?_
      refine CC.region ?_
      refine LL.val (R.move rfl rfl) rfl rfl rfl ?_
      refine LL.val (R.geT rfl rfl rfl (by omega)) rfl rfl rfl ?_
      refine LL.val (R.move rfl rfl) rfl rfl rfl ?_
      refine LL.val (R.move rfl rfl) rfl rfl rfl ?_
      refine LL.val (R.leT rfl rfl rfl (by omega)) rfl rfl rfl ?_
      refine LL.val (R.pick rfl rfl rfl) rfl rfl rfl ?_
      refine LL.val (R.assign rfl rfl) rfl rfl rfl ?_
      refine LL.nilS ?_
      refine CC.ret ?_
      refine EE.thenR ?_
      refine EE.ret _ rfl rfl ?_
      exact ⟨rfl, rfl⟩
    · obtain rfl : b = false := by
        cases b with
        | false => rfl
        | true => rcases hb.1 rfl with h | h <;> omega
      clear hb
      refine X.fn Try.func32 rfl (n := 15) rfl rfl ?_
      refine CC.seq ?_
      refine CC.region ?_
      refine LL.val (R.assign rfl rfl) rfl rfl rfl ?_
      refine LL.nilS ?_
      refine CC.seq ?_
      refine CC.seq ?_
      refine CC.region ?_
      refine LL.val (R.move rfl rfl) rfl rfl rfl ?_
      refine LL.val (R.eqT rfl rfl rfl (by omega)) rfl rfl rfl ?_
      refine LL.nilS ?_
      refine CC.yes rfl ?_
      refine CC.seq ?_
      refine CC.region ?_
      refine LL.val (R.move rfl rfl) rfl rfl rfl ?_
      refine LL.vsplit (fun h => R.geT rfl rfl rfl h) (fun h => R.geF rfl rfl rfl (Int.not_le.1 h)) rfl rfl rfl (fun ca1 => ?_) (fun ca1 => ?_)
      refine LL.val (R.move rfl rfl) rfl rfl rfl ?_
      refine LL.val (R.move rfl rfl) rfl rfl rfl ?_
      refine LL.val (R.leF rfl rfl rfl (by omega)) rfl rfl rfl ?_
      refine LL.val (R.pick rfl rfl rfl) rfl rfl rfl ?_
      refine LL.val (R.assign rfl rfl) rfl rfl rfl ?_
      refine LL.nilS ?_
      refine CC.ret ?_
      refine EE.thenR ?_
      refine EE.ret _ rfl rfl ?_
      exact ⟨rfl, rfl⟩
      refine LL.val (R.move rfl rfl) rfl rfl rfl ?_
      refine LL.skip rfl rfl ?_
      refine LL.skip rfl rfl ?_
      refine LL.val (R.pick rfl rfl rfl) rfl rfl rfl ?_
      refine LL.val (R.assign rfl rfl) rfl rfl rfl ?_
      refine LL.nilS ?_
      refine CC.ret ?_
      refine EE.thenR ?_
      refine EE.ret _ rfl rfl ?_
      exact ⟨rfl, rfl⟩
  · obtain rfl : b = decide (1 ≤ x ∧ x ≤ 2047) := by
      rw [Bool.eq_iff_iff, hb, decide_eq_true_eq]
      omega
    clear hb
    have hb := rblk_d x
    generalize decide (1 ≤ x ∧ x ≤ 2047) = b at hb ⊢
    refine X.fn Try.func32 rfl (n := 15) rfl rfl ?_
    refine CC.seq ?_
    refine CC.region ?_
    refine LL.val (R.assign rfl rfl) rfl rfl rfl ?_
    refine LL.nilS ?_
    refine CC.seq ?_
    refine CC.seq ?_
    refine CC.region ?_
    refine LL.val (R.move rfl rfl) rfl rfl rfl ?_
    refine LL.val (R.eqF rfl rfl rfl (by omega)) rfl rfl rfl ?_
    refine LL.nilS ?_
    refine CC.no rfl ?_
    refine CC.skip ?_
    refine EE.thenN ?_
    refine CC.seq ?_
    refine CC.region ?_
    refine LL.val (R.move rfl rfl) rfl rfl rfl ?_
    (refine LL.call (R.call rfl rfl rfl) rfl rfl rfl (hb _) ?_; rintro e @W ⟨rfl, rfl⟩; refine ⟨_, rfl, ?_⟩)
    refine LL.val (R.assign rfl rfl) rfl rfl rfl ?_
    refine LL.nilS ?_
    refine CC.ret ?_
    refine EE.ret _ rfl rfl ?_
    exact ⟨rfl, rfl⟩
theorem rrt_d (l x : Nat) (w : World) : Calls Try.prog 32 #[.int .i64 (l : Int), .int .u64 (x : Int)] w fun e w' => e = .returned (.bool (decide (okP l x))) ∧ w = w' := rrt_any l x _ decide_eq_true_iff w
section
variable {P : Program} {n : Nat} {D : List Deferred} {M : Slots} {w : World} {o : Oper} {x y : Operand} {t u : TypeId}
theorem R.subU {a b z : Nat} (ho : o.op = .binOp .sub t x y u) (hx : evM M x = some (.int .u64 (a : Int))) (hy : evM M y = some (.int .u64 (b : Int))) (e : IntKind.u64.wrap ((a : Int) - (b : Int)) = (z : Int)) : Runs P n D M o w (.value (.int .u64 (z : Int))) w :=
  R.bin ho hx hy (by simp [go_sem, e])
end
theorem cF_of {ws : List Nat} {w : World} {bk off c : Nat} (hv : ReadsT uE 1 w (.slice (some ⟨bk, off, none⟩) 64 c) ws) (hn : ws.length = 64) : ∀ i, i < 64 → ∀ W, Below w.heap.size w W → W.cell? ⟨bk, off + i, none⟩ = some (.int .u64 (gw ws i : Int)) := fun i hi W b => by
  obtain ⟨_, _, e, _, cs⟩ := (hv.up b).one uEnc (gw_get (ws := ws) (i := i) (by omega))
  cases e
  exact cs _ rfl
theorem bk_of {ws : List Nat} {w : World} {bk off c : Nat} (hv : ReadsT uE 1 w (.slice (some ⟨bk, off, none⟩) 64 c) ws) (hn : ws.length = 64) : bk < w.heap.size := by
  obtain ⟨_, _, e, h, _⟩ := hv.one uEnc (gw_get (ws := ws) (i := 0) (by omega))
  cases e
  exact h
theorem sub_mark {x : Nat} (h : 7522529147838689024 ≤ x ∧ x ≤ 7522529147838689036) : IntKind.u64.wrap ((x : Int) - ((7522529147838689024 : Nat) : Int)) = ((x % 256 : Nat) : Int) := by
  rw [IntKind.wrap_u64]
  omega
theorem rOf_no (n : Nat) (v : Value) (ws : List Nat) (w : World) (hv : ReadsT uE 1 w v ws) (hn : ws.length = n) (hb : ∀ x ∈ ws, x < 18446744073709551616) (hP : ¬nodeP ws) : Calls Try.prog 10 #[v] w fun e w' => e = .returned (.tuple #[nodeV 0 0 0 0 0 nilV, .int .i64 210]) ∧ Below w.heap.size w w' := by
  have q := Below.refl w.heap.size w
  by_cases h64 : n = 64
  case neg =>
    obtain ⟨a, c, rfl, hc⟩ := hv.form hn
    clear hv hb
    refine X.fn Try.func10 rfl (n := 101) rfl rfl ?_
    refine CC.seq ?_
    refine CC.region ?_
    refine LL.alloc ([Value.int IntKind.i64 0, Value.int IntKind.i64 0, Value.int IntKind.u64 0, Value.int IntKind.u64 0, Value.int IntKind.i64 0, Value.slice none 0 0]) rfl rfl rfl rfl rfl ?_
    intro W2 g3 eg3 r4 z5 b1
    replace q := q.trans (b1.mono q.size)
    refine LL.val (R.assign rfl rfl) rfl rfl rfl ?_
    refine LL.nilS ?_
    refine CC.seq ?_
    refine CC.seq ?_
    refine CC.region ?_
    refine LL.val (R.move rfl rfl) rfl rfl rfl ?_
    refine LL.val (R.len rfl rfl rfl rfl) rfl rfl rfl ?_
    refine LL.val (R.neT rfl rfl rfl (by omega)) rfl rfl rfl ?_
    refine LL.val (R.move rfl rfl) rfl rfl rfl ?_
    refine LL.skip rfl rfl ?_
    refine LL.skip rfl rfl ?_
    refine LL.skip rfl rfl ?_
    refine LL.skip rfl rfl ?_
    refine LL.val (R.pick rfl rfl rfl) rfl rfl rfl ?_
    refine LL.val (R.move rfl rfl) rfl rfl rfl ?_
    refine LL.skip rfl rfl ?_
    refine LL.skip rfl rfl ?_
    refine LL.skip rfl rfl ?_
    refine LL.skip rfl rfl ?_
    refine LL.val (R.pick rfl rfl rfl) rfl rfl rfl ?_
    refine LL.val (R.move rfl rfl) rfl rfl rfl ?_
    refine LL.skip rfl rfl ?_
    refine LL.skip rfl rfl ?_
    refine LL.skip rfl rfl ?_
    refine LL.skip rfl rfl ?_
    refine LL.val (R.pick rfl rfl rfl) rfl rfl rfl ?_
    refine LL.val (R.move rfl rfl) rfl rfl rfl ?_
    refine LL.skip rfl rfl ?_
    refine LL.skip rfl rfl ?_
    refine LL.skip rfl rfl ?_
    refine LL.skip rfl rfl ?_
    refine LL.val (R.pick rfl rfl rfl) rfl rfl rfl ?_
    refine LL.val (R.move rfl rfl) rfl rfl rfl ?_
    refine LL.skip rfl rfl ?_
    refine LL.skip rfl rfl ?_
    refine LL.skip rfl rfl ?_
    refine LL.skip rfl rfl ?_
    refine LL.val (R.pick rfl rfl rfl) rfl rfl rfl ?_
    refine LL.val (R.move rfl rfl) rfl rfl rfl ?_
    refine LL.skip rfl rfl ?_
    refine LL.skip rfl rfl ?_
    refine LL.skip rfl rfl ?_
    refine LL.skip rfl rfl ?_
    refine LL.val (R.pick rfl rfl rfl) rfl rfl rfl ?_
    refine LL.val (R.move rfl rfl) rfl rfl rfl ?_
    refine LL.skip rfl rfl ?_
    refine LL.skip rfl rfl ?_
    refine LL.skip rfl rfl ?_
    refine LL.skip rfl rfl ?_
    refine LL.val (R.pick rfl rfl rfl) rfl rfl rfl ?_
    refine LL.nilS ?_
    refine CC.yes rfl ?_
    refine CC.seq ?_
    refine CC.region ?_
    refine LL.val (R.buildV rfl rfl (v := .agg #[Value.int IntKind.i64 0, Value.int IntKind.i64 0, Value.int IntKind.u64 0, Value.int IntKind.u64 0, Value.int IntKind.i64 0, Value.slice none 0 0]) (fun _ => by kernel_rfl)) rfl rfl rfl ?_
    refine LL.storeN (vs := [Value.int IntKind.i64 0, Value.int IntKind.i64 0, Value.int IntKind.u64 0, Value.int IntKind.u64 0, Value.int IntKind.i64 0, Value.slice none 0 0]) rfl rfl rfl rfl r4 (by exact Nat.le_of_ble_eq_true rfl) (ones_of rfl) rfl rfl ?_
    intro W7 r8 b6 z9
    have hlb6 := r4.lt
    replace r8 : RowL W7 _ 29 [Value.int IntKind.i64 0, Value.int IntKind.i64 0, Value.int IntKind.u64 0, Value.int IntKind.u64 0, Value.int IntKind.i64 0, Value.slice none 0 0] := r8
    clear r4
    replace b1 := b1.grown b6 b1.size (by rintro k ⟨⟩; omega)
    replace q := q.grown b6 q.size (by rintro k ⟨⟩; omega)
    have r4 := r8
    clear r8
    refine LL.val (R.assign rfl rfl) rfl rfl rfl ?_
    refine LL.nilS ?_
    refine CC.ret ?_
    refine EE.thenR ?_
    refine EE.ret2 rfl ⟨_, rfl, lvNc (RowL.cells0 (by assumption)) (by rfl) (by rfl)⟩ rfl ?_
    exact ⟨rfl, q⟩
  subst h64
  obtain ⟨bk, off, c, rfl, hc⟩ := sl64 hv hn
  have cF := cF_of hv hn
  have hbk := bk_of hv hn
  have hlt := gw_lt hb
  obtain ⟨x0, e0⟩ : ∃ x, gw ws 0 = x := ⟨_, rfl⟩
  obtain ⟨x3, e3⟩ : ∃ x, gw ws 3 = x := ⟨_, rfl⟩
  have l0 := hlt 0
  have l3 := hlt 3
  have cF0 := cF 0 (by decide)
  have cF3 := cF 3 (by decide)
  rw [e0] at l0 cF0
  rw [e3] at l3 cF3
  have hP' : ¬(hdOk x0 (gw ws 1) x3 (gw ws 4) (gw ws 5) (gw ws 6) (gw ws 7)) := fun h => hP ⟨hn, by rw [e0, e3]; exact h⟩
  clear hv hb hP e0 e3
  have hmk := fun h => sub_mark (x := x0) h
  refine X.fn Try.func10 rfl (n := 101) rfl rfl ?_
  refine CC.seq ?_
  refine CC.region ?_
  refine LL.alloc ([Value.int IntKind.i64 0, Value.int IntKind.i64 0, Value.int IntKind.u64 0, Value.int IntKind.u64 0, Value.int IntKind.i64 0, Value.slice none 0 0]) rfl rfl rfl rfl rfl ?_
  intro Wa2 ga3 ega3 ra4 za5 ba1
  replace q := q.trans (ba1.mono q.size)
  refine LL.val (R.assign rfl rfl) rfl rfl rfl ?_
  refine LL.nilS ?_
  refine CC.seq ?_
  refine CC.seq ?_
  refine CC.region ?_
  refine LL.val (R.move rfl rfl) rfl rfl rfl ?_
  refine LL.val (R.len rfl rfl rfl rfl) rfl rfl rfl ?_
  refine LL.val (R.neF rfl rfl rfl (by omega)) rfl rfl rfl ?_
  refine LL.val (R.move rfl rfl) rfl rfl rfl ?_
  refine LL.val (R.move rfl rfl) rfl rfl rfl ?_
  refine LL.val (R.index rfl rfl rfl (I.ixS1c rfl rfl (by omega))) rfl rfl rfl ?_
  (refine LL.val (R.load rfl rfl (I.ld1 rfl (cF0 _ q))) rfl rfl rfl ?_)
  refine LL.vsplit (fun h => R.ltT rfl rfl rfl h) (fun h => R.ltF rfl rfl rfl (Int.not_lt.1 h)) rfl rfl rfl (fun ca6 => ?_) (fun ca6 => ?_)
  refine LL.val (R.pick rfl rfl rfl) rfl rfl rfl ?_
  refine LL.val (R.move rfl rfl) rfl rfl rfl ?_
  refine LL.skip rfl rfl ?_
  refine LL.skip rfl rfl ?_
  refine LL.skip rfl rfl ?_
  refine LL.skip rfl rfl ?_
  refine LL.val (R.pick rfl rfl rfl) rfl rfl rfl ?_
  refine LL.val (R.move rfl rfl) rfl rfl rfl ?_
  refine LL.skip rfl rfl ?_
  refine LL.skip rfl rfl ?_
  refine LL.skip rfl rfl ?_
  refine LL.skip rfl rfl ?_
  refine LL.val (R.pick rfl rfl rfl) rfl rfl rfl ?_
  refine LL.val (R.move rfl rfl) rfl rfl rfl ?_
  refine LL.skip rfl rfl ?_
  refine LL.skip rfl rfl ?_
  refine LL.skip rfl rfl ?_
  refine LL.skip rfl rfl ?_
  refine LL.val (R.pick rfl rfl rfl) rfl rfl rfl ?_
  refine LL.val (R.move rfl rfl) rfl rfl rfl ?_
  refine LL.skip rfl rfl ?_
  refine LL.skip rfl rfl ?_
  refine LL.skip rfl rfl ?_
  refine LL.skip rfl rfl ?_
  refine LL.val (R.pick rfl rfl rfl) rfl rfl rfl ?_
  refine LL.val (R.move rfl rfl) rfl rfl rfl ?_
  refine LL.skip rfl rfl ?_
  refine LL.skip rfl rfl ?_
  refine LL.skip rfl rfl ?_
  refine LL.skip rfl rfl ?_
  refine LL.val (R.pick rfl rfl rfl) rfl rfl rfl ?_
  refine LL.val (R.move rfl rfl) rfl rfl rfl ?_
  refine LL.skip rfl rfl ?_
  refine LL.skip rfl rfl ?_
  refine LL.skip rfl rfl ?_
  refine LL.skip rfl rfl ?_
  refine LL.val (R.pick rfl rfl rfl) rfl rfl rfl ?_
  refine LL.nilS ?_
  refine CC.yes rfl ?_
  refine CC.seq ?_
  refine CC.region ?_
  refine LL.val (R.buildV rfl rfl (v := .agg #[Value.int IntKind.i64 0, Value.int IntKind.i64 0, Value.int IntKind.u64 0, Value.int IntKind.u64 0, Value.int IntKind.i64 0, Value.slice none 0 0]) (fun _ => by kernel_rfl)) rfl rfl rfl ?_
  refine LL.storeN (vs := [Value.int IntKind.i64 0, Value.int IntKind.i64 0, Value.int IntKind.u64 0, Value.int IntKind.u64 0, Value.int IntKind.i64 0, Value.slice none 0 0]) rfl rfl rfl rfl ra4 (by exact Nat.le_of_ble_eq_true rfl) (ones_of rfl) rfl rfl ?_
  intro Wa8 ra9 ba7 za10
  have hlba7 := ra4.lt
  replace ra9 : RowL Wa8 _ 29 [Value.int IntKind.i64 0, Value.int IntKind.i64 0, Value.int IntKind.u64 0, Value.int IntKind.u64 0, Value.int IntKind.i64 0, Value.slice none 0 0] := ra9
  clear ra4
  replace ba1 := ba1.grown ba7 ba1.size (by rintro k ⟨⟩; omega)
  replace q := q.grown ba7 q.size (by rintro k ⟨⟩; omega)
  have ra4 := ra9
  clear ra9
  refine LL.val (R.assign rfl rfl) rfl rfl rfl ?_
  refine LL.nilS ?_
  refine CC.ret ?_
  refine EE.thenR ?_
  refine EE.ret2 rfl ⟨_, rfl, lvNc (RowL.cells0 (by assumption)) (by rfl) (by rfl)⟩ rfl ?_
  exact ⟨rfl, q⟩
  refine LL.val (R.pick rfl rfl rfl) rfl rfl rfl ?_
  refine LL.val (R.move rfl rfl) rfl rfl rfl ?_
  refine LL.val (R.move rfl rfl) rfl rfl rfl ?_
  refine LL.val (R.index rfl rfl rfl (I.ixS1c rfl rfl (by omega))) rfl rfl rfl ?_
  (refine LL.val (R.load rfl rfl (I.ld1 rfl (cF0 _ q))) rfl rfl rfl ?_)
  refine LL.vsplit (fun h => R.gtT rfl rfl rfl h) (fun h => R.gtF rfl rfl rfl (Int.not_lt.1 h)) rfl rfl rfl (fun ca11 => ?_) (fun ca11 => ?_)
  refine LL.val (R.pick rfl rfl rfl) rfl rfl rfl ?_
  refine LL.val (R.move rfl rfl) rfl rfl rfl ?_
  refine LL.skip rfl rfl ?_
  refine LL.skip rfl rfl ?_
  refine LL.skip rfl rfl ?_
  refine LL.skip rfl rfl ?_
  refine LL.val (R.pick rfl rfl rfl) rfl rfl rfl ?_
  refine LL.val (R.move rfl rfl) rfl rfl rfl ?_
  refine LL.skip rfl rfl ?_
  refine LL.skip rfl rfl ?_
  refine LL.skip rfl rfl ?_
  refine LL.skip rfl rfl ?_
  refine LL.val (R.pick rfl rfl rfl) rfl rfl rfl ?_
  refine LL.val (R.move rfl rfl) rfl rfl rfl ?_
  refine LL.skip rfl rfl ?_
  refine LL.skip rfl rfl ?_
  refine LL.skip rfl rfl ?_
  refine LL.skip rfl rfl ?_
  refine LL.val (R.pick rfl rfl rfl) rfl rfl rfl ?_
  refine LL.val (R.move rfl rfl) rfl rfl rfl ?_
  refine LL.skip rfl rfl ?_
  refine LL.skip rfl rfl ?_
  refine LL.skip rfl rfl ?_
  refine LL.skip rfl rfl ?_
  refine LL.val (R.pick rfl rfl rfl) rfl rfl rfl ?_
  refine LL.val (R.move rfl rfl) rfl rfl rfl ?_
  refine LL.skip rfl rfl ?_
  refine LL.skip rfl rfl ?_
  refine LL.skip rfl rfl ?_
  refine LL.skip rfl rfl ?_
  refine LL.val (R.pick rfl rfl rfl) rfl rfl rfl ?_
  refine LL.nilS ?_
  refine CC.yes rfl ?_
  refine CC.seq ?_
  refine CC.region ?_
  refine LL.val (R.buildV rfl rfl (v := .agg #[Value.int IntKind.i64 0, Value.int IntKind.i64 0, Value.int IntKind.u64 0, Value.int IntKind.u64 0, Value.int IntKind.i64 0, Value.slice none 0 0]) (fun _ => by kernel_rfl)) rfl rfl rfl ?_
  refine LL.storeN (vs := [Value.int IntKind.i64 0, Value.int IntKind.i64 0, Value.int IntKind.u64 0, Value.int IntKind.u64 0, Value.int IntKind.i64 0, Value.slice none 0 0]) rfl rfl rfl rfl ra4 (by exact Nat.le_of_ble_eq_true rfl) (ones_of rfl) rfl rfl ?_
  intro Wa13 ra14 ba12 za15
  have hlba12 := ra4.lt
  replace ra14 : RowL Wa13 _ 29 [Value.int IntKind.i64 0, Value.int IntKind.i64 0, Value.int IntKind.u64 0, Value.int IntKind.u64 0, Value.int IntKind.i64 0, Value.slice none 0 0] := ra14
  clear ra4
  replace ba1 := ba1.grown ba12 ba1.size (by rintro k ⟨⟩; omega)
  replace q := q.grown ba12 q.size (by rintro k ⟨⟩; omega)
  have ra4 := ra14
  clear ra14
  refine LL.val (R.assign rfl rfl) rfl rfl rfl ?_
  refine LL.nilS ?_
  refine CC.ret ?_
  refine EE.thenR ?_
  refine EE.ret2 rfl ⟨_, rfl, lvNc (RowL.cells0 (by assumption)) (by rfl) (by rfl)⟩ rfl ?_
  exact ⟨rfl, q⟩
  refine LL.val (R.pick rfl rfl rfl) rfl rfl rfl ?_
  refine LL.val (R.move rfl rfl) rfl rfl rfl ?_
  refine LL.val (R.move rfl rfl) rfl rfl rfl ?_
  refine LL.val (R.index rfl rfl rfl (I.ixS1c rfl rfl (by omega))) rfl rfl rfl ?_
  (refine LL.val (R.load rfl rfl (I.ld1 rfl (cF 1 (by decide) _ q))) rfl rfl rfl ?_)
  refine LL.vsplit (fun h => R.gtT rfl rfl rfl h) (fun h => R.gtF rfl rfl rfl (Int.not_lt.1 h)) rfl rfl rfl (fun ca16 => ?_) (fun ca16 => ?_)
  refine LL.val (R.pick rfl rfl rfl) rfl rfl rfl ?_
  refine LL.val (R.move rfl rfl) rfl rfl rfl ?_
  refine LL.skip rfl rfl ?_
  refine LL.skip rfl rfl ?_
  refine LL.skip rfl rfl ?_
  refine LL.skip rfl rfl ?_
  refine LL.val (R.pick rfl rfl rfl) rfl rfl rfl ?_
  refine LL.val (R.move rfl rfl) rfl rfl rfl ?_
  refine LL.skip rfl rfl ?_
  refine LL.skip rfl rfl ?_
  refine LL.skip rfl rfl ?_
  refine LL.skip rfl rfl ?_
  refine LL.val (R.pick rfl rfl rfl) rfl rfl rfl ?_
  refine LL.val (R.move rfl rfl) rfl rfl rfl ?_
  refine LL.skip rfl rfl ?_
  refine LL.skip rfl rfl ?_
  refine LL.skip rfl rfl ?_
  refine LL.skip rfl rfl ?_
  refine LL.val (R.pick rfl rfl rfl) rfl rfl rfl ?_
  refine LL.val (R.move rfl rfl) rfl rfl rfl ?_
  refine LL.skip rfl rfl ?_
  refine LL.skip rfl rfl ?_
  refine LL.skip rfl rfl ?_
  refine LL.skip rfl rfl ?_
  refine LL.val (R.pick rfl rfl rfl) rfl rfl rfl ?_
  refine LL.nilS ?_
  refine CC.yes rfl ?_
  refine CC.seq ?_
  refine CC.region ?_
  refine LL.val (R.buildV rfl rfl (v := .agg #[Value.int IntKind.i64 0, Value.int IntKind.i64 0, Value.int IntKind.u64 0, Value.int IntKind.u64 0, Value.int IntKind.i64 0, Value.slice none 0 0]) (fun _ => by kernel_rfl)) rfl rfl rfl ?_
  refine LL.storeN (vs := [Value.int IntKind.i64 0, Value.int IntKind.i64 0, Value.int IntKind.u64 0, Value.int IntKind.u64 0, Value.int IntKind.i64 0, Value.slice none 0 0]) rfl rfl rfl rfl ra4 (by exact Nat.le_of_ble_eq_true rfl) (ones_of rfl) rfl rfl ?_
  intro Wa18 ra19 ba17 za20
  have hlba17 := ra4.lt
  replace ra19 : RowL Wa18 _ 29 [Value.int IntKind.i64 0, Value.int IntKind.i64 0, Value.int IntKind.u64 0, Value.int IntKind.u64 0, Value.int IntKind.i64 0, Value.slice none 0 0] := ra19
  clear ra4
  replace ba1 := ba1.grown ba17 ba1.size (by rintro k ⟨⟩; omega)
  replace q := q.grown ba17 q.size (by rintro k ⟨⟩; omega)
  have ra4 := ra19
  clear ra19
  refine LL.val (R.assign rfl rfl) rfl rfl rfl ?_
  refine LL.nilS ?_
  refine CC.ret ?_
  refine EE.thenR ?_
  refine EE.ret2 rfl ⟨_, rfl, lvNc (RowL.cells0 (by assumption)) (by rfl) (by rfl)⟩ rfl ?_
  exact ⟨rfl, q⟩
  refine LL.val (R.pick rfl rfl rfl) rfl rfl rfl ?_
  refine LL.val (R.move rfl rfl) rfl rfl rfl ?_
  refine LL.val (R.move rfl rfl) rfl rfl rfl ?_
  refine LL.val (R.index rfl rfl rfl (I.ixS1c rfl rfl (by omega))) rfl rfl rfl ?_
  (refine LL.val (R.load rfl rfl (I.ld1 rfl (cF 4 (by decide) _ q))) rfl rfl rfl ?_)
  refine LL.vsplit (fun h => R.gtT rfl rfl rfl h) (fun h => R.gtF rfl rfl rfl (Int.not_lt.1 h)) rfl rfl rfl (fun ca21 => ?_) (fun ca21 => ?_)
  refine LL.val (R.pick rfl rfl rfl) rfl rfl rfl ?_
  refine LL.val (R.move rfl rfl) rfl rfl rfl ?_
  refine LL.skip rfl rfl ?_
  refine LL.skip rfl rfl ?_
  refine LL.skip rfl rfl ?_
  refine LL.skip rfl rfl ?_
  refine LL.val (R.pick rfl rfl rfl) rfl rfl rfl ?_
  refine LL.val (R.move rfl rfl) rfl rfl rfl ?_
  refine LL.skip rfl rfl ?_
  refine LL.skip rfl rfl ?_
  refine LL.skip rfl rfl ?_
  refine LL.skip rfl rfl ?_
  refine LL.val (R.pick rfl rfl rfl) rfl rfl rfl ?_
  refine LL.val (R.move rfl rfl) rfl rfl rfl ?_
  refine LL.skip rfl rfl ?_
  refine LL.skip rfl rfl ?_
  refine LL.skip rfl rfl ?_
  refine LL.skip rfl rfl ?_
  refine LL.val (R.pick rfl rfl rfl) rfl rfl rfl ?_
  refine LL.nilS ?_
  refine CC.yes rfl ?_
  refine CC.seq ?_
  refine CC.region ?_
  refine LL.val (R.buildV rfl rfl (v := .agg #[Value.int IntKind.i64 0, Value.int IntKind.i64 0, Value.int IntKind.u64 0, Value.int IntKind.u64 0, Value.int IntKind.i64 0, Value.slice none 0 0]) (fun _ => by kernel_rfl)) rfl rfl rfl ?_
  refine LL.storeN (vs := [Value.int IntKind.i64 0, Value.int IntKind.i64 0, Value.int IntKind.u64 0, Value.int IntKind.u64 0, Value.int IntKind.i64 0, Value.slice none 0 0]) rfl rfl rfl rfl ra4 (by exact Nat.le_of_ble_eq_true rfl) (ones_of rfl) rfl rfl ?_
  intro Wa23 ra24 ba22 za25
  have hlba22 := ra4.lt
  replace ra24 : RowL Wa23 _ 29 [Value.int IntKind.i64 0, Value.int IntKind.i64 0, Value.int IntKind.u64 0, Value.int IntKind.u64 0, Value.int IntKind.i64 0, Value.slice none 0 0] := ra24
  clear ra4
  replace ba1 := ba1.grown ba22 ba1.size (by rintro k ⟨⟩; omega)
  replace q := q.grown ba22 q.size (by rintro k ⟨⟩; omega)
  have ra4 := ra24
  clear ra24
  refine LL.val (R.assign rfl rfl) rfl rfl rfl ?_
  refine LL.nilS ?_
  refine CC.ret ?_
  refine EE.thenR ?_
  refine EE.ret2 rfl ⟨_, rfl, lvNc (RowL.cells0 (by assumption)) (by rfl) (by rfl)⟩ rfl ?_
  exact ⟨rfl, q⟩
  refine LL.val (R.pick rfl rfl rfl) rfl rfl rfl ?_
  refine LL.val (R.move rfl rfl) rfl rfl rfl ?_
  refine LL.val (R.move rfl rfl) rfl rfl rfl ?_
  refine LL.val (R.index rfl rfl rfl (I.ixS1c rfl rfl (by omega))) rfl rfl rfl ?_
  (refine LL.val (R.load rfl rfl (I.ld1 rfl (cF 5 (by decide) _ q))) rfl rfl rfl ?_)
  refine LL.vsplit (fun h => R.neT rfl rfl rfl h) (fun h => R.neF rfl rfl rfl (Decidable.not_not.1 h)) rfl rfl rfl (fun ca26 => ?_) (fun ca26 => ?_)
  refine LL.val (R.pick rfl rfl rfl) rfl rfl rfl ?_
  refine LL.val (R.move rfl rfl) rfl rfl rfl ?_
  refine LL.skip rfl rfl ?_
  refine LL.skip rfl rfl ?_
  refine LL.skip rfl rfl ?_
  refine LL.skip rfl rfl ?_
  refine LL.val (R.pick rfl rfl rfl) rfl rfl rfl ?_
  refine LL.val (R.move rfl rfl) rfl rfl rfl ?_
  refine LL.skip rfl rfl ?_
  refine LL.skip rfl rfl ?_
  refine LL.skip rfl rfl ?_
  refine LL.skip rfl rfl ?_
  refine LL.val (R.pick rfl rfl rfl) rfl rfl rfl ?_
  refine LL.nilS ?_
  refine CC.yes rfl ?_
  refine CC.seq ?_
  refine CC.region ?_
  refine LL.val (R.buildV rfl rfl (v := .agg #[Value.int IntKind.i64 0, Value.int IntKind.i64 0, Value.int IntKind.u64 0, Value.int IntKind.u64 0, Value.int IntKind.i64 0, Value.slice none 0 0]) (fun _ => by kernel_rfl)) rfl rfl rfl ?_
  refine LL.storeN (vs := [Value.int IntKind.i64 0, Value.int IntKind.i64 0, Value.int IntKind.u64 0, Value.int IntKind.u64 0, Value.int IntKind.i64 0, Value.slice none 0 0]) rfl rfl rfl rfl ra4 (by exact Nat.le_of_ble_eq_true rfl) (ones_of rfl) rfl rfl ?_
  intro Wa28 ra29 ba27 za30
  have hlba27 := ra4.lt
  replace ra29 : RowL Wa28 _ 29 [Value.int IntKind.i64 0, Value.int IntKind.i64 0, Value.int IntKind.u64 0, Value.int IntKind.u64 0, Value.int IntKind.i64 0, Value.slice none 0 0] := ra29
  clear ra4
  replace ba1 := ba1.grown ba27 ba1.size (by rintro k ⟨⟩; omega)
  replace q := q.grown ba27 q.size (by rintro k ⟨⟩; omega)
  have ra4 := ra29
  clear ra29
  refine LL.val (R.assign rfl rfl) rfl rfl rfl ?_
  refine LL.nilS ?_
  refine CC.ret ?_
  refine EE.thenR ?_
  refine EE.ret2 rfl ⟨_, rfl, lvNc (RowL.cells0 (by assumption)) (by rfl) (by rfl)⟩ rfl ?_
  exact ⟨rfl, q⟩
  refine LL.val (R.pick rfl rfl rfl) rfl rfl rfl ?_
  refine LL.val (R.move rfl rfl) rfl rfl rfl ?_
  refine LL.val (R.move rfl rfl) rfl rfl rfl ?_
  refine LL.val (R.index rfl rfl rfl (I.ixS1c rfl rfl (by omega))) rfl rfl rfl ?_
  (refine LL.val (R.load rfl rfl (I.ld1 rfl (cF 6 (by decide) _ q))) rfl rfl rfl ?_)
  refine LL.vsplit (fun h => R.neT rfl rfl rfl h) (fun h => R.neF rfl rfl rfl (Decidable.not_not.1 h)) rfl rfl rfl (fun ca31 => ?_) (fun ca31 => ?_)
  refine LL.val (R.pick rfl rfl rfl) rfl rfl rfl ?_
  refine LL.val (R.move rfl rfl) rfl rfl rfl ?_
  refine LL.skip rfl rfl ?_
  refine LL.skip rfl rfl ?_
  refine LL.skip rfl rfl ?_
  refine LL.skip rfl rfl ?_
  refine LL.val (R.pick rfl rfl rfl) rfl rfl rfl ?_
  refine LL.nilS ?_
  refine CC.yes rfl ?_
  refine CC.seq ?_
  refine CC.region ?_
  refine LL.val (R.buildV rfl rfl (v := .agg #[Value.int IntKind.i64 0, Value.int IntKind.i64 0, Value.int IntKind.u64 0, Value.int IntKind.u64 0, Value.int IntKind.i64 0, Value.slice none 0 0]) (fun _ => by kernel_rfl)) rfl rfl rfl ?_
  refine LL.storeN (vs := [Value.int IntKind.i64 0, Value.int IntKind.i64 0, Value.int IntKind.u64 0, Value.int IntKind.u64 0, Value.int IntKind.i64 0, Value.slice none 0 0]) rfl rfl rfl rfl ra4 (by exact Nat.le_of_ble_eq_true rfl) (ones_of rfl) rfl rfl ?_
  intro Wa33 ra34 ba32 za35
  have hlba32 := ra4.lt
  replace ra34 : RowL Wa33 _ 29 [Value.int IntKind.i64 0, Value.int IntKind.i64 0, Value.int IntKind.u64 0, Value.int IntKind.u64 0, Value.int IntKind.i64 0, Value.slice none 0 0] := ra34
  clear ra4
  replace ba1 := ba1.grown ba32 ba1.size (by rintro k ⟨⟩; omega)
  replace q := q.grown ba32 q.size (by rintro k ⟨⟩; omega)
  have ra4 := ra34
  clear ra34
  refine LL.val (R.assign rfl rfl) rfl rfl rfl ?_
  refine LL.nilS ?_
  refine CC.ret ?_
  refine EE.thenR ?_
  refine EE.ret2 rfl ⟨_, rfl, lvNc (RowL.cells0 (by assumption)) (by rfl) (by rfl)⟩ rfl ?_
  exact ⟨rfl, q⟩
  refine LL.val (R.pick rfl rfl rfl) rfl rfl rfl ?_
  refine LL.val (R.move rfl rfl) rfl rfl rfl ?_
  refine LL.val (R.move rfl rfl) rfl rfl rfl ?_
  refine LL.val (R.index rfl rfl rfl (I.ixS1c rfl rfl (by omega))) rfl rfl rfl ?_
  (refine LL.val (R.load rfl rfl (I.ld1 rfl (cF 7 (by decide) _ q))) rfl rfl rfl ?_)
  refine LL.vsplit (fun h => R.neT rfl rfl rfl h) (fun h => R.neF rfl rfl rfl (Decidable.not_not.1 h)) rfl rfl rfl (fun ca36 => ?_) (fun ca36 => ?_)
  refine LL.val (R.pick rfl rfl rfl) rfl rfl rfl ?_
  refine LL.nilS ?_
  refine CC.yes rfl ?_
  refine CC.seq ?_
  refine CC.region ?_
  refine LL.val (R.buildV rfl rfl (v := .agg #[Value.int IntKind.i64 0, Value.int IntKind.i64 0, Value.int IntKind.u64 0, Value.int IntKind.u64 0, Value.int IntKind.i64 0, Value.slice none 0 0]) (fun _ => by kernel_rfl)) rfl rfl rfl ?_
  refine LL.storeN (vs := [Value.int IntKind.i64 0, Value.int IntKind.i64 0, Value.int IntKind.u64 0, Value.int IntKind.u64 0, Value.int IntKind.i64 0, Value.slice none 0 0]) rfl rfl rfl rfl ra4 (by exact Nat.le_of_ble_eq_true rfl) (ones_of rfl) rfl rfl ?_
  intro Wa38 ra39 ba37 za40
  have hlba37 := ra4.lt
  replace ra39 : RowL Wa38 _ 29 [Value.int IntKind.i64 0, Value.int IntKind.i64 0, Value.int IntKind.u64 0, Value.int IntKind.u64 0, Value.int IntKind.i64 0, Value.slice none 0 0] := ra39
  clear ra4
  replace ba1 := ba1.grown ba37 ba1.size (by rintro k ⟨⟩; omega)
  replace q := q.grown ba37 q.size (by rintro k ⟨⟩; omega)
  have ra4 := ra39
  clear ra39
  refine LL.val (R.assign rfl rfl) rfl rfl rfl ?_
  refine LL.nilS ?_
  refine CC.ret ?_
  refine EE.thenR ?_
  refine EE.ret2 rfl ⟨_, rfl, lvNc (RowL.cells0 (by assumption)) (by rfl) (by rfl)⟩ rfl ?_
  exact ⟨rfl, q⟩
  refine LL.val (R.pick rfl rfl rfl) rfl rfl rfl ?_
  refine LL.nilS ?_
  refine CC.no rfl ?_
  refine CC.skip ?_
  refine EE.thenN ?_
  refine CC.seq ?_
  refine CC.freeZ (fun W_ j => j < W_.heap.size ∧ (True)) (by kernel_rfl) (by kernel_rfl) (fun Wa42 ba41 za43 => ?_)
  replace ra4 := ra4.up ba41
  replace ba1 := ba1.trans (ba41.mono ba1.size)
  replace q := q.trans (ba41.mono q.size)
  have hok : Kept (fun j => j < Wa42.heap.size ∧ (True)) Wa42 Wa42 := Kept.refl _ _
  have fzra4 := fzRow (K := fun j => j < Wa42.heap.size ∧ (True)) ra4 ⟨ra4.lt, (by first | trivial | omega)⟩
  refine AA.pure 0 rfl hok (by kernel_rfl) (fun w' b' => R.move rfl rfl) rfl rfl ?_
  refine AA.pure 1 rfl hok (by kernel_rfl) (fun w' b' => R.index rfl rfl rfl (I.ixS1c rfl rfl (by omega))) rfl rfl ?_
  refine AA.pure 2 rfl hok (by kernel_rfl) (fun w' b' => R.load rfl rfl (I.ld1 rfl (cell_kept (cF0 _ q) b' ⟨by have := q.size; omega, trivial⟩))) rfl rfl ?_
  refine AA.pure 3 rfl hok (by kernel_rfl) (fun w' b' => R.subU (b := 7522529147838689024) rfl rfl rfl (hmk ⟨by omega, by omega⟩)) rfl rfl ?_
  refine AA.pure 4 rfl hok (by kernel_rfl) (fun w' b' => R.convI rfl rfl rfl rfl (wrapI (by omega) (by omega))) rfl rfl ?_
  refine AA.pure 5 rfl hok (by kernel_rfl) (fun w' b' => R.move rfl rfl) rfl rfl ?_
  refine AA.pure 6 rfl hok (by kernel_rfl) (fun w' b' => R.index rfl rfl rfl (I.ixS1c rfl rfl (by omega))) rfl rfl ?_
  refine AA.pure 7 rfl hok (by kernel_rfl) (fun w' b' => R.load rfl rfl (I.ld1 rfl (cell_kept (cF 1 (by decide) _ q) b' ⟨by have := q.size; omega, trivial⟩))) rfl rfl ?_
  refine AA.pure 8 rfl hok (by kernel_rfl) (fun w' b' => R.convI rfl rfl rfl rfl (wrapI (by omega) (by omega))) rfl rfl ?_
  refine AA.pure 9 rfl hok (by kernel_rfl) (fun w' b' => R.move rfl rfl) rfl rfl ?_
  refine AA.pure 10 rfl hok (by kernel_rfl) (fun w' b' => R.index rfl rfl rfl (I.ixS1c rfl rfl (by omega))) rfl rfl ?_
  refine AA.pure 11 rfl hok (by kernel_rfl) (fun w' b' => R.load rfl rfl (I.ld1 rfl (cell_kept (cF 2 (by decide) _ q) b' ⟨by have := q.size; omega, trivial⟩))) rfl rfl ?_
  refine AA.pure 12 rfl hok (by kernel_rfl) (fun w' b' => R.move rfl rfl) rfl rfl ?_
  refine AA.pure 13 rfl hok (by kernel_rfl) (fun w' b' => R.index rfl rfl rfl (I.ixS1c rfl rfl (by omega))) rfl rfl ?_
  refine AA.pure 14 rfl hok (by kernel_rfl) (fun w' b' => R.load rfl rfl (I.ld1 rfl (cell_kept (cF3 _ q) b' ⟨by have := q.size; omega, trivial⟩))) rfl rfl ?_
  refine AA.pure 15 rfl hok (by kernel_rfl) (fun w' b' => R.move rfl rfl) rfl rfl ?_
  refine AA.pure 16 rfl hok (by kernel_rfl) (fun w' b' => R.index rfl rfl rfl (I.ixS1c rfl rfl (by omega))) rfl rfl ?_
  refine AA.pure 17 rfl hok (by kernel_rfl) (fun w' b' => R.load rfl rfl (I.ld1 rfl (cell_kept (cF 4 (by decide) _ q) b' ⟨by have := q.size; omega, trivial⟩))) rfl rfl ?_
  refine AA.pure 18 rfl hok (by kernel_rfl) (fun w' b' => R.convI rfl rfl rfl rfl (wrapI (by omega) (by omega))) rfl rfl ?_
  refine AA.pure 19 rfl hok (by kernel_rfl) (fun w' b' => R.buildV rfl rfl (v := .agg #[Value.int IntKind.i64 ↑(x0 % 256), Value.int IntKind.i64 ↑(gw ws 1), Value.int IntKind.u64 ↑(gw ws 2), Value.int IntKind.u64 ↑x3, Value.int IntKind.i64 ↑(gw ws 4), Value.slice none 0 0]) (fun _ => by kernel_rfl)) rfl rfl ?_
  refine AA.one 20 (by kernel_rfl) ?_
  have la44 := ra4.lt
  refine ZR.alloc ([Value.int IntKind.i64 0, Value.int IntKind.i64 0, Value.int IntKind.u64 0, Value.int IntKind.u64 0, Value.int IntKind.i64 0, Value.slice none 0 0]) rfl rfl rfl rfl rfl rfl ?_
  intro Wa46 ga47 ega47 ra48 za49 ba45
  replace ba41 := ba41.trans (ba45.mono ba41.size)
  replace ra4 := ra4.up ba45
  replace ba1 := ba1.trans (ba45.mono ba1.size)
  replace q := q.trans (ba45.mono q.size)
  replace hok := hok.trans (bkept ba45 (fun j h => by have := h.1; have := hok.size; omega))
  have ya50 := hok.size
  refine ⟨hok, ?_⟩
  refine AA.one 21 (by kernel_rfl) ?_
  refine ZR.storeN (vs := [Value.int IntKind.i64 ↑(x0 % 256), Value.int IntKind.i64 ↑(gw ws 1), Value.int IntKind.u64 ↑(gw ws 2), Value.int IntKind.u64 ↑x3, Value.int IntKind.i64 ↑(gw ws 4), Value.slice none 0 0]) rfl rfl rfl rfl rfl ra48 (by exact Nat.le_of_ble_eq_true rfl) (ones_of rfl) rfl rfl ?_
  intro Wa52 ra53 ba51 za54
  have hlba51 := ra48.lt
  replace ra53 : RowL Wa52 _ 29 [Value.int IntKind.i64 ↑(x0 % 256), Value.int IntKind.i64 ↑(gw ws 1), Value.int IntKind.u64 ↑(gw ws 2), Value.int IntKind.u64 ↑x3, Value.int IntKind.i64 ↑(gw ws 4), Value.slice none 0 0] := ra53
  clear ra48
  replace ba45 := ba45.grown ba51 ba45.size (by rintro k ⟨⟩; omega)
  replace ba41 := ba41.grown ba51 ba41.size (by rintro k ⟨⟩; omega)
  replace ra4 := ra4.gr ba51 (by have := ra4.lt; omega)
  replace ba1 := ba1.grown ba51 ba1.size (by rintro k ⟨⟩; omega)
  replace q := q.grown ba51 q.size (by rintro k ⟨⟩; omega)
  replace hok := hok.trans (grown_kept ba51 (fun j h => by have := h.1; have := hok.size; omega) (fun j h e => by cases e; have h2 := h.1; have h3 := h.2; omega))
  have ra48 := ra53
  clear ra53
  refine ⟨hok, ?_⟩
  refine AA.done rfl ?_
  clear fzra4 hok
  refine EE.thenN ?_
  refine CC.seq ?_
  refine CC.seq ?_
  refine CC.region ?_
  refine LL.val (R.field rfl rfl (I.fld rfl)) rfl rfl rfl ?_
  refine LL.val (R.load rfl rfl (I.ld1 rfl (RowL.cell ra48 rfl))) rfl rfl rfl ?_
  refine LL.vsplit (fun h => R.eqT rfl rfl rfl h) (fun h => R.eqF rfl rfl rfl h) rfl rfl rfl (fun ca55 => ?_) (fun ca55 => ?_)
  refine LL.val (R.move rfl rfl) rfl rfl rfl ?_
  refine LL.val (R.field rfl rfl (I.fld rfl)) rfl rfl rfl ?_
  refine LL.val (R.load rfl rfl (I.ld1 rfl (RowL.cell ra48 rfl))) rfl rfl rfl ?_
  refine LL.vsplit (fun h => R.neT rfl rfl rfl h) (fun h => R.neF rfl rfl rfl (Decidable.not_not.1 h)) rfl rfl rfl (fun ca56 => ?_) (fun ca56 => ?_)
  refine LL.val (R.pick rfl rfl rfl) rfl rfl rfl ?_
  refine LL.val (R.move rfl rfl) rfl rfl rfl ?_
  refine LL.skip rfl rfl ?_
  refine LL.skip rfl rfl ?_
  refine LL.skip rfl rfl ?_
  refine LL.skip rfl rfl ?_
  refine LL.skip rfl rfl ?_
  refine LL.skip rfl rfl ?_
  refine LL.skip rfl rfl ?_
  refine LL.skip rfl rfl ?_
  refine LL.skip rfl rfl ?_
  refine LL.val (R.pick rfl rfl rfl) rfl rfl rfl ?_
  refine LL.nilS ?_
  refine CC.yes rfl ?_
  refine CC.seq ?_
  refine CC.region ?_
  refine LL.val (R.buildV rfl rfl (v := .agg #[Value.int IntKind.i64 0, Value.int IntKind.i64 0, Value.int IntKind.u64 0, Value.int IntKind.u64 0, Value.int IntKind.i64 0, Value.slice none 0 0]) (fun _ => by kernel_rfl)) rfl rfl rfl ?_
  refine LL.storeN (vs := [Value.int IntKind.i64 0, Value.int IntKind.i64 0, Value.int IntKind.u64 0, Value.int IntKind.u64 0, Value.int IntKind.i64 0, Value.slice none 0 0]) rfl rfl rfl rfl ra4 (by exact Nat.le_of_ble_eq_true rfl) (ones_of rfl) rfl rfl ?_
  intro Wa58 ra59 ba57 za60
  have hlba57 := ra4.lt
  replace ra59 : RowL Wa58 _ 29 [Value.int IntKind.i64 0, Value.int IntKind.i64 0, Value.int IntKind.u64 0, Value.int IntKind.u64 0, Value.int IntKind.i64 0, Value.slice none 0 0] := ra59
  clear ra4
  replace ba1 := ba1.grown ba57 ba1.size (by rintro k ⟨⟩; omega)
  replace q := q.grown ba57 q.size (by rintro k ⟨⟩; omega)
  replace ra48 := ra48.gr ba57 (by have := ra48.lt; omega)
  have ra4 := ra59
  clear ra59
  refine LL.val (R.assign rfl rfl) rfl rfl rfl ?_
  refine LL.nilS ?_
  refine CC.ret ?_
  refine EE.thenR ?_
  refine EE.ret2 rfl ⟨_, rfl, lvNc (RowL.cells0 (by assumption)) (by rfl) (by rfl)⟩ rfl ?_
  exact ⟨rfl, q⟩
  refine LL.val (R.pick rfl rfl rfl) rfl rfl rfl ?_
  refine LL.val (R.move rfl rfl) rfl rfl rfl ?_
  refine LL.val (R.field rfl rfl (I.fld rfl)) rfl rfl rfl ?_
  refine LL.val (R.load rfl rfl (I.ld1 rfl (RowL.cell ra48 rfl))) rfl rfl rfl ?_
  refine LL.val (R.gtF rfl rfl rfl (by omega)) rfl rfl rfl ?_
  refine LL.val (R.move rfl rfl) rfl rfl rfl ?_
  refine LL.skip rfl rfl ?_
  refine LL.skip rfl rfl ?_
  refine LL.skip rfl rfl ?_
  refine LL.skip rfl rfl ?_
  refine LL.val (R.pick rfl rfl rfl) rfl rfl rfl ?_
  refine LL.val (R.pick rfl rfl rfl) rfl rfl rfl ?_
  refine LL.nilS ?_
  refine CC.no rfl ?_
  refine CC.skip ?_
  refine EE.thenN ?_
  refine CC.seq ?_
  refine CC.freeZ (fun W_ j => j < W_.heap.size ∧ (j ≠ ga47)) (by kernel_rfl) (by kernel_rfl) (fun Wa65 ba64 za66 => ?_)
  replace ba45 := ba45.trans (ba64.mono ba45.size)
  replace ba41 := ba41.trans (ba64.mono ba41.size)
  replace ra4 := ra4.up ba64
  replace ba1 := ba1.trans (ba64.mono ba1.size)
  replace q := q.trans (ba64.mono q.size)
  replace ra48 := ra48.up ba64
  have hok : Kept (fun j => j < Wa65.heap.size ∧ (j ≠ ga47)) Wa65 Wa65 := Kept.refl _ _
  have fzra4 := fzRow (K := fun j => j < Wa65.heap.size ∧ (j ≠ ga47)) ra4 ⟨ra4.lt, (by first | trivial | omega)⟩
  refine AA.pure 0 rfl hok (by kernel_rfl) (fun w' b' => R.field rfl rfl (I.fld rfl)) rfl rfl ?_
  refine AA.pure 2 rfl hok (by kernel_rfl) (fun w' b' => R.move rfl rfl) rfl rfl ?_
  refine AA.two 1 3 (by kernel_rfl) ?_ ?_
  refine SR.val rfl (R.load rfl rfl (I.ld1 rfl (RowL.cell ra48 rfl))) rfl rfl hok ?_
  refine AA.one 3 (by kernel_rfl) ?_
  (exfalso; exact hP' ⟨⟨by omega, by omega⟩, by omega, by unfold ru3; omega, by omega, by omega, by omega, by omega⟩)
  (exfalso; exact hP' ⟨⟨by omega, by omega⟩, by omega, by unfold ru3; omega, by omega, by omega, by omega, by omega⟩)
  refine LL.val (R.move rfl rfl) rfl rfl rfl ?_
  refine LL.skip rfl rfl ?_
  refine LL.skip rfl rfl ?_
  refine LL.skip rfl rfl ?_
  refine LL.val (R.pick rfl rfl rfl) rfl rfl rfl ?_
  refine LL.val (R.move rfl rfl) rfl rfl rfl ?_
  refine LL.val (R.field rfl rfl (I.fld rfl)) rfl rfl rfl ?_
  refine LL.val (R.load rfl rfl (I.ld1 rfl (RowL.cell ra48 rfl))) rfl rfl rfl ?_
  refine LL.val (R.gtT rfl rfl rfl (by omega)) rfl rfl rfl ?_
  refine LL.val (R.move rfl rfl) rfl rfl rfl ?_
  refine LL.val (R.field rfl rfl (I.fld rfl)) rfl rfl rfl ?_
  refine LL.val (R.load rfl rfl (I.ld1 rfl (RowL.cell ra48 rfl))) rfl rfl rfl ?_
  refine LL.callD (R.call rfl rfl rfl) rfl rfl rfl (rblk_d _ _) (fun ca67 => ?_) (fun ca67 => ?_)
  refine LL.val (R.not rfl rfl) rfl rfl rfl ?_
  refine LL.val (R.pick rfl rfl rfl) rfl rfl rfl ?_
  refine LL.val (R.pick rfl rfl rfl) rfl rfl rfl ?_
  refine LL.nilS ?_
  refine CC.no rfl ?_
  refine CC.skip ?_
  refine EE.thenN ?_
  refine CC.seq ?_
  refine CC.freeZ (fun W_ j => j < W_.heap.size ∧ (j ≠ ga47)) (by kernel_rfl) (by kernel_rfl) (fun Wa72 ba71 za73 => ?_)
  replace ba45 := ba45.trans (ba71.mono ba45.size)
  replace ba41 := ba41.trans (ba71.mono ba41.size)
  replace ra4 := ra4.up ba71
  replace ba1 := ba1.trans (ba71.mono ba1.size)
  replace q := q.trans (ba71.mono q.size)
  replace ra48 := ra48.up ba71
  have hok : Kept (fun j => j < Wa72.heap.size ∧ (j ≠ ga47)) Wa72 Wa72 := Kept.refl _ _
  have fzra4 := fzRow (K := fun j => j < Wa72.heap.size ∧ (j ≠ ga47)) ra4 ⟨ra4.lt, (by first | trivial | omega)⟩
  refine AA.pure 0 rfl hok (by kernel_rfl) (fun w' b' => R.field rfl rfl (I.fld rfl)) rfl rfl ?_
  refine AA.pure 2 rfl hok (by kernel_rfl) (fun w' b' => R.move rfl rfl) rfl rfl ?_
  refine AA.two 1 3 (by kernel_rfl) ?_ ?_
  refine SR.val rfl (R.load rfl rfl (I.ld1 rfl (RowL.cell ra48 rfl))) rfl rfl hok ?_
  refine AA.one 3 (by kernel_rfl) ?_
  (exfalso; exact hP' ⟨⟨by omega, by omega⟩, by omega, by unfold ru3; omega, by omega, by omega, by omega, by omega⟩)
  (exfalso; exact hP' ⟨⟨by omega, by omega⟩, by omega, by unfold ru3; omega, by omega, by omega, by omega, by omega⟩)
  refine LL.val (R.not rfl rfl) rfl rfl rfl ?_
  refine LL.val (R.pick rfl rfl rfl) rfl rfl rfl ?_
  refine LL.val (R.pick rfl rfl rfl) rfl rfl rfl ?_
  refine LL.nilS ?_
  refine CC.yes rfl ?_
  refine CC.seq ?_
  refine CC.region ?_
  refine LL.val (R.buildV rfl rfl (v := .agg #[Value.int IntKind.i64 0, Value.int IntKind.i64 0, Value.int IntKind.u64 0, Value.int IntKind.u64 0, Value.int IntKind.i64 0, Value.slice none 0 0]) (fun _ => by kernel_rfl)) rfl rfl rfl ?_
  refine LL.storeN (vs := [Value.int IntKind.i64 0, Value.int IntKind.i64 0, Value.int IntKind.u64 0, Value.int IntKind.u64 0, Value.int IntKind.i64 0, Value.slice none 0 0]) rfl rfl rfl rfl ra4 (by exact Nat.le_of_ble_eq_true rfl) (ones_of rfl) rfl rfl ?_
  intro Wa75 ra76 ba74 za77
  have hlba74 := ra4.lt
  replace ra76 : RowL Wa75 _ 29 [Value.int IntKind.i64 0, Value.int IntKind.i64 0, Value.int IntKind.u64 0, Value.int IntKind.u64 0, Value.int IntKind.i64 0, Value.slice none 0 0] := ra76
  clear ra4
  replace ba1 := ba1.grown ba74 ba1.size (by rintro k ⟨⟩; omega)
  replace q := q.grown ba74 q.size (by rintro k ⟨⟩; omega)
  replace ra48 := ra48.gr ba74 (by have := ra48.lt; omega)
  have ra4 := ra76
  clear ra76
  refine LL.val (R.assign rfl rfl) rfl rfl rfl ?_
  refine LL.nilS ?_
  refine CC.ret ?_
  refine EE.thenR ?_
  refine EE.ret2 rfl ⟨_, rfl, lvNc (RowL.cells0 (by assumption)) (by rfl) (by rfl)⟩ rfl ?_
  exact ⟨rfl, q⟩
theorem rOf_yes (n : Nat) (v : Value) (ws : List Nat) (w : World) (hv : ReadsT uE 1 w v ws) (hn : ws.length = n) (hb : ∀ x ∈ ws, x < 18446744073709551616) (hP : nodeP ws) : Calls Try.prog 10 #[v] w fun e w' => (∃ vo, e = .returned (.tuple #[ndV ws vo, .int .i64 0]) ∧ OwnsT prE 2 w' w.heap.size 46 vo (readF (gw ws 3) (ws.drop 8))) ∧ Below w.heap.size w w' := by
  have q := Below.refl w.heap.size w
  obtain rfl : n = 64 := hn.symm.trans hP.1
  obtain ⟨bk, off, c, rfl, hc⟩ := sl64 hv hn
  have cF := cF_of hv hn
  have hbk := bk_of hv hn
  have hs : ∀ W, Below w.heap.size w W → ReadsT uE 1 W (.slice (some ⟨bk, off + 8 * 1, none⟩) (64 - 8) (c - 8)) (ws.drop 8) := fun W b => by
    have := ((uE_reads hv).below b).from 8 (by decide)
    rw [show (ints .u64 ws).drop 8 = ints .u64 (ws.drop 8) by simp [ints]] at this
    exact reads_uE this
  have hd8 : (ws.drop 8).length = 56 := by rw [List.length_drop, hn]
  have hh := hP.2
  have hrow : ¬noRow (gw ws 3) 56 := hd_row hh rfl
  have hrd := fun W (b : Below w.heap.size w W) => dread_any (gw ws 3) _ 56 (c - 8) (ws.drop 8) W (hs W b) hd8 (by decide)
  have epp : pairP (gw ws 3) (ws.drop 8) = readF (gw ws 3) (ws.drop 8) := (readF_row (by rw [hd8]; exact hrow)).symm
  rw [epp] at hrd
  have h0 := hh.a
  have h3 := hh.c
  have h1 := hh.b
  have h4 := hh.d
  have h5 := hh.e
  have h6 := hh.f
  have h7 := hh.g
  unfold ru1 at h0
  unfold ru3 at h3
  obtain ⟨x0, e0⟩ : ∃ x, gw ws 0 = x := ⟨_, rfl⟩
  obtain ⟨x3, e3⟩ : ∃ x, gw ws 3 = x := ⟨_, rfl⟩
  obtain ⟨ps, eps⟩ : ∃ x, readF (gw ws 3) (ws.drop 8) = x := ⟨_, rfl⟩
  unfold ndV
  rw [eps] at hrd ⊢
  rw [e3] at hrd h3 ⊢
  rw [e0] at h0 h3 ⊢
  have hx0 : 7522529147838689024 ≤ x0 ∧ x0 ≤ 7522529147838689036 := by omega
  have hsub := sub_mark hx0
  have cF0 := cF 0 (by decide)
  have cF3 := cF 3 (by decide)
  rw [e0] at cF0
  rw [e3] at cF3
  have hmk := fun h => sub_mark (x := x0) h
  clear hv hb hP hh epp hs eps e0 e3
  refine X.fn Try.func10 rfl (n := 101) rfl rfl ?_
  refine CC.seq ?_
  refine CC.region ?_
  refine LL.alloc ([Value.int IntKind.i64 0, Value.int IntKind.i64 0, Value.int IntKind.u64 0, Value.int IntKind.u64 0, Value.int IntKind.i64 0, Value.slice none 0 0]) rfl rfl rfl rfl rfl ?_
  intro W9 g10 eg10 r11 z12 b8
  replace q := q.trans (b8.mono q.size)
  refine LL.val (R.assign rfl rfl) rfl rfl rfl ?_
  refine LL.nilS ?_
  refine CC.seq ?_
  refine CC.seq ?_
  refine CC.region ?_
  refine LL.val (R.move rfl rfl) rfl rfl rfl ?_
  refine LL.val (R.len rfl rfl rfl rfl) rfl rfl rfl ?_
  refine LL.val (R.neF rfl rfl rfl (by omega)) rfl rfl rfl ?_
  refine LL.val (R.move rfl rfl) rfl rfl rfl ?_
  refine LL.val (R.move rfl rfl) rfl rfl rfl ?_
  refine LL.val (R.index rfl rfl rfl (I.ixS1c rfl rfl (by omega))) rfl rfl rfl ?_
  (refine LL.val (R.load rfl rfl (I.ld1 rfl (cF0 _ q))) rfl rfl rfl ?_)
  refine LL.val (R.ltF rfl rfl rfl (by omega)) rfl rfl rfl ?_
  refine LL.val (R.pick rfl rfl rfl) rfl rfl rfl ?_
  refine LL.val (R.move rfl rfl) rfl rfl rfl ?_
  refine LL.val (R.move rfl rfl) rfl rfl rfl ?_
  refine LL.val (R.index rfl rfl rfl (I.ixS1c rfl rfl (by omega))) rfl rfl rfl ?_
  (refine LL.val (R.load rfl rfl (I.ld1 rfl (cF0 _ q))) rfl rfl rfl ?_)
  refine LL.val (R.gtF rfl rfl rfl (by omega)) rfl rfl rfl ?_
  refine LL.val (R.pick rfl rfl rfl) rfl rfl rfl ?_
  refine LL.val (R.move rfl rfl) rfl rfl rfl ?_
  refine LL.val (R.move rfl rfl) rfl rfl rfl ?_
  refine LL.val (R.index rfl rfl rfl (I.ixS1c rfl rfl (by omega))) rfl rfl rfl ?_
  (refine LL.val (R.load rfl rfl (I.ld1 rfl (cF 1 (by decide) _ q))) rfl rfl rfl ?_)
  refine LL.val (R.gtF rfl rfl rfl (by omega)) rfl rfl rfl ?_
  refine LL.val (R.pick rfl rfl rfl) rfl rfl rfl ?_
  refine LL.val (R.move rfl rfl) rfl rfl rfl ?_
  refine LL.val (R.move rfl rfl) rfl rfl rfl ?_
  refine LL.val (R.index rfl rfl rfl (I.ixS1c rfl rfl (by omega))) rfl rfl rfl ?_
  (refine LL.val (R.load rfl rfl (I.ld1 rfl (cF 4 (by decide) _ q))) rfl rfl rfl ?_)
  refine LL.val (R.gtF rfl rfl rfl (by omega)) rfl rfl rfl ?_
  refine LL.val (R.pick rfl rfl rfl) rfl rfl rfl ?_
  refine LL.val (R.move rfl rfl) rfl rfl rfl ?_
  refine LL.val (R.move rfl rfl) rfl rfl rfl ?_
  refine LL.val (R.index rfl rfl rfl (I.ixS1c rfl rfl (by omega))) rfl rfl rfl ?_
  (refine LL.val (R.load rfl rfl (I.ld1 rfl (cF 5 (by decide) _ q))) rfl rfl rfl ?_)
  refine LL.val (R.neF rfl rfl rfl (by omega)) rfl rfl rfl ?_
  refine LL.val (R.pick rfl rfl rfl) rfl rfl rfl ?_
  refine LL.val (R.move rfl rfl) rfl rfl rfl ?_
  refine LL.val (R.move rfl rfl) rfl rfl rfl ?_
  refine LL.val (R.index rfl rfl rfl (I.ixS1c rfl rfl (by omega))) rfl rfl rfl ?_
  (refine LL.val (R.load rfl rfl (I.ld1 rfl (cF 6 (by decide) _ q))) rfl rfl rfl ?_)
  refine LL.val (R.neF rfl rfl rfl (by omega)) rfl rfl rfl ?_
  refine LL.val (R.pick rfl rfl rfl) rfl rfl rfl ?_
  refine LL.val (R.move rfl rfl) rfl rfl rfl ?_
  refine LL.val (R.move rfl rfl) rfl rfl rfl ?_
  refine LL.val (R.index rfl rfl rfl (I.ixS1c rfl rfl (by omega))) rfl rfl rfl ?_
  (refine LL.val (R.load rfl rfl (I.ld1 rfl (cF 7 (by decide) _ q))) rfl rfl rfl ?_)
  refine LL.val (R.neF rfl rfl rfl (by omega)) rfl rfl rfl ?_
  refine LL.val (R.pick rfl rfl rfl) rfl rfl rfl ?_
  refine LL.nilS ?_
  refine CC.no rfl ?_
  refine CC.skip ?_
  refine EE.thenN ?_
  refine CC.seq ?_
  refine CC.freeZ (fun W_ j => j < W_.heap.size ∧ (True)) (by kernel_rfl) (by kernel_rfl) (fun W382 b381 z383 => ?_)
  replace r11 := r11.up b381
  replace b8 := b8.trans (b381.mono b8.size)
  replace q := q.trans (b381.mono q.size)
  have hok : Kept (fun j => j < W382.heap.size ∧ (True)) W382 W382 := Kept.refl _ _
  have fzr11 := fzRow (K := fun j => j < W382.heap.size ∧ (True)) r11 ⟨r11.lt, (by first | trivial | omega)⟩
  refine AA.pure 0 rfl hok (by kernel_rfl) (fun w' b' => R.move rfl rfl) rfl rfl ?_
  refine AA.pure 1 rfl hok (by kernel_rfl) (fun w' b' => R.index rfl rfl rfl (I.ixS1c rfl rfl (by omega))) rfl rfl ?_
  refine AA.pure 2 rfl hok (by kernel_rfl) (fun w' b' => R.load rfl rfl (I.ld1 rfl (cell_kept (cF0 _ q) b' ⟨by have := q.size; omega, trivial⟩))) rfl rfl ?_
  refine AA.pure 3 rfl hok (by kernel_rfl) (fun w' b' => R.subU (b := 7522529147838689024) rfl rfl rfl (hmk ⟨by omega, by omega⟩)) rfl rfl ?_
  refine AA.pure 4 rfl hok (by kernel_rfl) (fun w' b' => R.convI rfl rfl rfl rfl (wrapI (by omega) (by omega))) rfl rfl ?_
  refine AA.pure 5 rfl hok (by kernel_rfl) (fun w' b' => R.move rfl rfl) rfl rfl ?_
  refine AA.pure 6 rfl hok (by kernel_rfl) (fun w' b' => R.index rfl rfl rfl (I.ixS1c rfl rfl (by omega))) rfl rfl ?_
  refine AA.pure 7 rfl hok (by kernel_rfl) (fun w' b' => R.load rfl rfl (I.ld1 rfl (cell_kept (cF 1 (by decide) _ q) b' ⟨by have := q.size; omega, trivial⟩))) rfl rfl ?_
  refine AA.pure 8 rfl hok (by kernel_rfl) (fun w' b' => R.convI rfl rfl rfl rfl (wrapI (by omega) (by omega))) rfl rfl ?_
  refine AA.pure 9 rfl hok (by kernel_rfl) (fun w' b' => R.move rfl rfl) rfl rfl ?_
  refine AA.pure 10 rfl hok (by kernel_rfl) (fun w' b' => R.index rfl rfl rfl (I.ixS1c rfl rfl (by omega))) rfl rfl ?_
  refine AA.pure 11 rfl hok (by kernel_rfl) (fun w' b' => R.load rfl rfl (I.ld1 rfl (cell_kept (cF 2 (by decide) _ q) b' ⟨by have := q.size; omega, trivial⟩))) rfl rfl ?_
  refine AA.pure 12 rfl hok (by kernel_rfl) (fun w' b' => R.move rfl rfl) rfl rfl ?_
  refine AA.pure 13 rfl hok (by kernel_rfl) (fun w' b' => R.index rfl rfl rfl (I.ixS1c rfl rfl (by omega))) rfl rfl ?_
  refine AA.pure 14 rfl hok (by kernel_rfl) (fun w' b' => R.load rfl rfl (I.ld1 rfl (cell_kept (cF3 _ q) b' ⟨by have := q.size; omega, trivial⟩))) rfl rfl ?_
  refine AA.pure 15 rfl hok (by kernel_rfl) (fun w' b' => R.move rfl rfl) rfl rfl ?_
  refine AA.pure 16 rfl hok (by kernel_rfl) (fun w' b' => R.index rfl rfl rfl (I.ixS1c rfl rfl (by omega))) rfl rfl ?_
  refine AA.pure 17 rfl hok (by kernel_rfl) (fun w' b' => R.load rfl rfl (I.ld1 rfl (cell_kept (cF 4 (by decide) _ q) b' ⟨by have := q.size; omega, trivial⟩))) rfl rfl ?_
  refine AA.pure 18 rfl hok (by kernel_rfl) (fun w' b' => R.convI rfl rfl rfl rfl (wrapI (by omega) (by omega))) rfl rfl ?_
  refine AA.pure 19 rfl hok (by kernel_rfl) (fun w' b' => R.buildV rfl rfl (v := .agg #[Value.int IntKind.i64 ↑(x0 % 256), Value.int IntKind.i64 ↑(gw ws 1), Value.int IntKind.u64 ↑(gw ws 2), Value.int IntKind.u64 ↑x3, Value.int IntKind.i64 ↑(gw ws 4), Value.slice none 0 0]) (fun _ => by kernel_rfl)) rfl rfl ?_
  refine AA.one 20 (by kernel_rfl) ?_
  have l392 := r11.lt
  refine ZR.alloc ([Value.int IntKind.i64 0, Value.int IntKind.i64 0, Value.int IntKind.u64 0, Value.int IntKind.u64 0, Value.int IntKind.i64 0, Value.slice none 0 0]) rfl rfl rfl rfl rfl rfl ?_
  intro W394 g395 eg395 r396 z397 b393
  replace b381 := b381.trans (b393.mono b381.size)
  replace r11 := r11.up b393
  replace b8 := b8.trans (b393.mono b8.size)
  replace q := q.trans (b393.mono q.size)
  replace hok := hok.trans (bkept b393 (fun j h => by have := h.1; have := hok.size; omega))
  have y398 := hok.size
  refine ⟨hok, ?_⟩
  refine AA.one 21 (by kernel_rfl) ?_
  refine ZR.storeN (vs := [Value.int IntKind.i64 ↑(x0 % 256), Value.int IntKind.i64 ↑(gw ws 1), Value.int IntKind.u64 ↑(gw ws 2), Value.int IntKind.u64 ↑x3, Value.int IntKind.i64 ↑(gw ws 4), Value.slice none 0 0]) rfl rfl rfl rfl rfl r396 (by exact Nat.le_of_ble_eq_true rfl) (ones_of rfl) rfl rfl ?_
  intro W409 r410 b408 z411
  have hlb408 := r396.lt
  replace r410 : RowL W409 _ 29 [Value.int IntKind.i64 ↑(x0 % 256), Value.int IntKind.i64 ↑(gw ws 1), Value.int IntKind.u64 ↑(gw ws 2), Value.int IntKind.u64 ↑x3, Value.int IntKind.i64 ↑(gw ws 4), Value.slice none 0 0] := r410
  clear r396
  replace b393 := b393.grown b408 b393.size (by rintro k ⟨⟩; omega)
  replace b381 := b381.grown b408 b381.size (by rintro k ⟨⟩; omega)
  replace r11 := r11.gr b408 (by have := r11.lt; omega)
  replace b8 := b8.grown b408 b8.size (by rintro k ⟨⟩; omega)
  replace q := q.grown b408 q.size (by rintro k ⟨⟩; omega)
  replace hok := hok.trans (grown_kept b408 (fun j h => by have := h.1; have := hok.size; omega) (fun j h e => by cases e; have h2 := h.1; have h3 := h.2; omega))
  have r396 := r410
  clear r410
  refine ⟨hok, ?_⟩
  refine AA.done rfl ?_
  clear fzr11 hok
  refine EE.thenN ?_
  refine CC.seq ?_
  refine CC.seq ?_
  refine CC.region ?_
  refine LL.val (R.field rfl rfl (I.fld rfl)) rfl rfl rfl ?_
  refine LL.val (R.load rfl rfl (I.ld1 rfl (RowL.cell r396 rfl))) rfl rfl rfl ?_
  refine LL.vsplit (fun h => R.eqT rfl rfl rfl h) (fun h => R.eqF rfl rfl rfl h) rfl rfl rfl (fun c439 => ?_) (fun c439 => ?_)
  refine LL.val (R.move rfl rfl) rfl rfl rfl ?_
  refine LL.val (R.field rfl rfl (I.fld rfl)) rfl rfl rfl ?_
  refine LL.val (R.load rfl rfl (I.ld1 rfl (RowL.cell r396 rfl))) rfl rfl rfl ?_
  refine LL.val (R.neF rfl rfl rfl (by omega)) rfl rfl rfl ?_
  refine LL.val (R.pick rfl rfl rfl) rfl rfl rfl ?_
  refine LL.val (R.move rfl rfl) rfl rfl rfl ?_
  refine LL.val (R.field rfl rfl (I.fld rfl)) rfl rfl rfl ?_
  refine LL.val (R.load rfl rfl (I.ld1 rfl (RowL.cell r396 rfl))) rfl rfl rfl ?_
  refine LL.val (R.gtF rfl rfl rfl (by omega)) rfl rfl rfl ?_
  refine LL.val (R.move rfl rfl) rfl rfl rfl ?_
  refine LL.skip rfl rfl ?_
  refine LL.skip rfl rfl ?_
  refine LL.skip rfl rfl ?_
  refine LL.skip rfl rfl ?_
  refine LL.val (R.pick rfl rfl rfl) rfl rfl rfl ?_
  refine LL.val (R.pick rfl rfl rfl) rfl rfl rfl ?_
  refine LL.nilS ?_
  refine CC.no rfl ?_
  refine CC.skip ?_
  refine EE.thenN ?_
  refine CC.seq ?_
  refine CC.freeZ (fun W_ j => j < W_.heap.size ∧ (j ≠ g395)) (by kernel_rfl) (by kernel_rfl) (fun W586 b585 z587 => ?_)
  replace b393 := b393.trans (b585.mono b393.size)
  replace b381 := b381.trans (b585.mono b381.size)
  replace r11 := r11.up b585
  replace b8 := b8.trans (b585.mono b8.size)
  replace q := q.trans (b585.mono q.size)
  replace r396 := r396.up b585
  have hok : Kept (fun j => j < W586.heap.size ∧ (j ≠ g395)) W586 W586 := Kept.refl _ _
  have fzr11 := fzRow (K := fun j => j < W586.heap.size ∧ (j ≠ g395)) r11 ⟨r11.lt, (by first | trivial | omega)⟩
  refine AA.pure 0 rfl hok (by kernel_rfl) (fun w' b' => R.field rfl rfl (I.fld rfl)) rfl rfl ?_
  refine AA.pure 2 rfl hok (by kernel_rfl) (fun w' b' => R.move rfl rfl) rfl rfl ?_
  refine AA.two 1 3 (by kernel_rfl) ?_ ?_
  refine SR.val rfl (R.load rfl rfl (I.ld1 rfl (RowL.cell r396 rfl))) rfl rfl hok ?_
  refine AA.one 3 (by kernel_rfl) ?_
  (refine SR.val rfl (R.slice rfl rfl rfl rfl rfl (I.slFrom (lo := 8) rfl (by omega) (by omega) (by omega))) rfl rfl hok ?_)
  refine AA.one 4 (by kernel_rfl) ?_
  have l601 := r11.lt
  have l602 := r396.lt
  (refine SR.call rfl (R.call rfl rfl rfl) rfl rfl (hrd _ q) ?_; rintro e W600 ⟨v1, v2, rfl, o1, o2, hd12, b597⟩; refine ⟨_, rfl, ?_⟩; obtain ⟨a1, c1, rfl, hc1⟩ := (o1.reads prEnc).form rfl; clear o2 hd12)
  have zb597 := b597.size
  replace b585 := b585.trans (b597.mono b585.size)
  replace b393 := b393.trans (b597.mono b393.size)
  replace b381 := b381.trans (b597.mono b381.size)
  replace r11 := r11.up b597
  replace b8 := b8.trans (b597.mono b8.size)
  replace q := q.trans (b597.mono q.size)
  replace r396 := r396.up b597
  replace hok := hok.trans (bkept b597 (fun j h => by have := h.1; have := hok.size; omega))
  have y606 := hok.size
  refine ⟨hok, ?_⟩
  refine AA.pure 5 rfl hok (by kernel_rfl) (fun w' b' => R.move rfl rfl) rfl rfl ?_
  refine AA.pure 6 rfl hok (by kernel_rfl) (fun w' b' => R.extract rfl rfl rfl) rfl rfl ?_
  refine AA.pure 7 rfl hok (by kernel_rfl) (fun w' b' => R.extract rfl rfl rfl) rfl rfl ?_
  refine AA.pure 8 rfl hok (by kernel_rfl) (fun w' b' => R.field rfl rfl (I.fld rfl)) rfl rfl ?_
  refine AA.one 9 (by kernel_rfl) ?_
  refine ZR.store rfl rfl rfl rfl rfl r396 (by exact Nat.le_of_ble_eq_true rfl) rfl rfl rfl rfl ?_
  intro W617 r618 b616 z619
  have hlb616 := r396.lt
  replace r618 : RowL W617 _ 29 [Value.int IntKind.i64 ↑(x0 % 256), Value.int IntKind.i64 ↑(gw ws 1), Value.int IntKind.u64 ↑(gw ws 2), Value.int IntKind.u64 ↑x3, Value.int IntKind.i64 ↑(gw ws 4), Value.slice a1 ps.length c1] := r618
  clear r396
  replace o1 := o1.grown b616 (own_ne o1 (by omega))
  replace b393 := b393.grown b616 b393.size (by rintro k ⟨⟩; omega)
  replace b381 := b381.grown b616 b381.size (by rintro k ⟨⟩; omega)
  replace r11 := r11.gr b616 (by have := r11.lt; omega)
  replace b8 := b8.grown b616 b8.size (by rintro k ⟨⟩; omega)
  replace q := q.grown b616 q.size (by rintro k ⟨⟩; omega)
  replace hok := hok.trans (grown_kept b616 (fun j h => by have := h.1; have := hok.size; omega) (fun j h e => by cases e; have h2 := h.1; have h3 := h.2; omega))
  have r396 := r618
  clear r618
  refine ⟨hok, ?_⟩
  refine AA.done rfl ?_
  clear fzr11 hok
  refine EE.thenN ?_
  refine CC.seq ?_
  refine CC.region ?_
  refine LL.val (R.load rfl rfl (I.ldNc (vs := [Value.int IntKind.i64 ↑(x0 % 256), Value.int IntKind.i64 ↑(gw ws 1), Value.int IntKind.u64 ↑(gw ws 2), Value.int IntKind.u64 ↑x3, Value.int IntKind.i64 ↑(gw ws 4), Value.slice a1 ps.length c1]) (RowL.cells r396 rfl) (by rfl) (by rfl))) rfl rfl rfl ?_
  refine LL.storeN (vs := [Value.int IntKind.i64 ↑(x0 % 256), Value.int IntKind.i64 ↑(gw ws 1), Value.int IntKind.u64 ↑(gw ws 2), Value.int IntKind.u64 ↑x3, Value.int IntKind.i64 ↑(gw ws 4), Value.slice a1 ps.length c1]) rfl rfl rfl rfl r11 (by exact Nat.le_of_ble_eq_true rfl) (ones_of rfl) rfl rfl ?_
  intro W639 r640 b638 z641
  have hlb638 := r11.lt
  replace r640 : RowL W639 _ 29 [Value.int IntKind.i64 ↑(x0 % 256), Value.int IntKind.i64 ↑(gw ws 1), Value.int IntKind.u64 ↑(gw ws 2), Value.int IntKind.u64 ↑x3, Value.int IntKind.i64 ↑(gw ws 4), Value.slice a1 ps.length c1] := r640
  clear r11
  replace o1 := o1.grown b638 (own_ne o1 (by omega))
  replace b8 := b8.grown b638 b8.size (by rintro k ⟨⟩; omega)
  replace q := q.grown b638 q.size (by rintro k ⟨⟩; omega)
  replace r396 := r396.gr b638 (by have := r396.lt; omega)
  have r11 := r640
  clear r640
  refine LL.val (R.assign rfl rfl) rfl rfl rfl ?_
  refine LL.nilS ?_
  refine CC.ret ?_
  refine EE.ret2 rfl ⟨_, rfl, lvNc (RowL.cells0 (by assumption)) (by rfl) (by rfl)⟩ rfl ?_
  exact ⟨⟨_, rfl, OwnsT.lower (by assumption) (by omega)⟩, q⟩
  (refine SR.val rfl (R.slice rfl rfl rfl rfl rfl (I.slFrom (lo := 8) rfl (by omega) (by omega) (by omega))) rfl rfl hok ?_)
  refine AA.one 1 (by kernel_rfl) ?_
  refine SR.val rfl (R.load rfl rfl (I.ld1 rfl (RowL.cell r396 rfl))) rfl rfl hok ?_
  refine AA.one 4 (by kernel_rfl) ?_
  have l664 := r11.lt
  have l665 := r396.lt
  (refine SR.call rfl (R.call rfl rfl rfl) rfl rfl (hrd _ q) ?_; rintro e W663 ⟨v1, v2, rfl, o1, o2, hd12, b660⟩; refine ⟨_, rfl, ?_⟩; obtain ⟨a1, c1, rfl, hc1⟩ := (o1.reads prEnc).form rfl; clear o2 hd12)
  have zb660 := b660.size
  replace b585 := b585.trans (b660.mono b585.size)
  replace b393 := b393.trans (b660.mono b393.size)
  replace b381 := b381.trans (b660.mono b381.size)
  replace r11 := r11.up b660
  replace b8 := b8.trans (b660.mono b8.size)
  replace q := q.trans (b660.mono q.size)
  replace r396 := r396.up b660
  replace hok := hok.trans (bkept b660 (fun j h => by have := h.1; have := hok.size; omega))
  have y669 := hok.size
  refine ⟨hok, ?_⟩
  refine AA.pure 5 rfl hok (by kernel_rfl) (fun w' b' => R.move rfl rfl) rfl rfl ?_
  refine AA.pure 6 rfl hok (by kernel_rfl) (fun w' b' => R.extract rfl rfl rfl) rfl rfl ?_
  refine AA.pure 7 rfl hok (by kernel_rfl) (fun w' b' => R.extract rfl rfl rfl) rfl rfl ?_
  refine AA.pure 8 rfl hok (by kernel_rfl) (fun w' b' => R.field rfl rfl (I.fld rfl)) rfl rfl ?_
  refine AA.one 9 (by kernel_rfl) ?_
  refine ZR.store rfl rfl rfl rfl rfl r396 (by exact Nat.le_of_ble_eq_true rfl) rfl rfl rfl rfl ?_
  intro W680 r681 b679 z682
  have hlb679 := r396.lt
  replace r681 : RowL W680 _ 29 [Value.int IntKind.i64 ↑(x0 % 256), Value.int IntKind.i64 ↑(gw ws 1), Value.int IntKind.u64 ↑(gw ws 2), Value.int IntKind.u64 ↑x3, Value.int IntKind.i64 ↑(gw ws 4), Value.slice a1 ps.length c1] := r681
  clear r396
  replace o1 := o1.grown b679 (own_ne o1 (by omega))
  replace b393 := b393.grown b679 b393.size (by rintro k ⟨⟩; omega)
  replace b381 := b381.grown b679 b381.size (by rintro k ⟨⟩; omega)
  replace r11 := r11.gr b679 (by have := r11.lt; omega)
  replace b8 := b8.grown b679 b8.size (by rintro k ⟨⟩; omega)
  replace q := q.grown b679 q.size (by rintro k ⟨⟩; omega)
  replace hok := hok.trans (grown_kept b679 (fun j h => by have := h.1; have := hok.size; omega) (fun j h e => by cases e; have h2 := h.1; have h3 := h.2; omega))
  have r396 := r681
  clear r681
  refine ⟨hok, ?_⟩
  refine AA.done rfl ?_
  clear fzr11 hok
  refine EE.thenN ?_
  refine CC.seq ?_
  refine CC.region ?_
  refine LL.val (R.load rfl rfl (I.ldNc (vs := [Value.int IntKind.i64 ↑(x0 % 256), Value.int IntKind.i64 ↑(gw ws 1), Value.int IntKind.u64 ↑(gw ws 2), Value.int IntKind.u64 ↑x3, Value.int IntKind.i64 ↑(gw ws 4), Value.slice a1 ps.length c1]) (RowL.cells r396 rfl) (by rfl) (by rfl))) rfl rfl rfl ?_
  refine LL.storeN (vs := [Value.int IntKind.i64 ↑(x0 % 256), Value.int IntKind.i64 ↑(gw ws 1), Value.int IntKind.u64 ↑(gw ws 2), Value.int IntKind.u64 ↑x3, Value.int IntKind.i64 ↑(gw ws 4), Value.slice a1 ps.length c1]) rfl rfl rfl rfl r11 (by exact Nat.le_of_ble_eq_true rfl) (ones_of rfl) rfl rfl ?_
  intro W702 r703 b701 z704
  have hlb701 := r11.lt
  replace r703 : RowL W702 _ 29 [Value.int IntKind.i64 ↑(x0 % 256), Value.int IntKind.i64 ↑(gw ws 1), Value.int IntKind.u64 ↑(gw ws 2), Value.int IntKind.u64 ↑x3, Value.int IntKind.i64 ↑(gw ws 4), Value.slice a1 ps.length c1] := r703
  clear r11
  replace o1 := o1.grown b701 (own_ne o1 (by omega))
  replace b8 := b8.grown b701 b8.size (by rintro k ⟨⟩; omega)
  replace q := q.grown b701 q.size (by rintro k ⟨⟩; omega)
  replace r396 := r396.gr b701 (by have := r396.lt; omega)
  have r11 := r703
  clear r703
  refine LL.val (R.assign rfl rfl) rfl rfl rfl ?_
  refine LL.nilS ?_
  refine CC.ret ?_
  refine EE.ret2 rfl ⟨_, rfl, lvNc (RowL.cells0 (by assumption)) (by rfl) (by rfl)⟩ rfl ?_
  exact ⟨⟨_, rfl, OwnsT.lower (by assumption) (by omega)⟩, q⟩
  refine LL.val (R.move rfl rfl) rfl rfl rfl ?_
  refine LL.skip rfl rfl ?_
  refine LL.skip rfl rfl ?_
  refine LL.skip rfl rfl ?_
  refine LL.val (R.pick rfl rfl rfl) rfl rfl rfl ?_
  refine LL.val (R.move rfl rfl) rfl rfl rfl ?_
  refine LL.val (R.field rfl rfl (I.fld rfl)) rfl rfl rfl ?_
  refine LL.val (R.load rfl rfl (I.ld1 rfl (RowL.cell r396 rfl))) rfl rfl rfl ?_
  refine LL.val (R.gtT rfl rfl rfl (by omega)) rfl rfl rfl ?_
  refine LL.val (R.move rfl rfl) rfl rfl rfl ?_
  refine LL.val (R.field rfl rfl (I.fld rfl)) rfl rfl rfl ?_
  refine LL.val (R.load rfl rfl (I.ld1 rfl (RowL.cell r396 rfl))) rfl rfl rfl ?_
  refine LL.callDT (R.call rfl rfl rfl) rfl rfl rfl (rblk_d _ _) (by first | assumption | omega) ?_
  refine LL.val (R.not rfl rfl) rfl rfl rfl ?_
  refine LL.val (R.pick rfl rfl rfl) rfl rfl rfl ?_
  refine LL.val (R.pick rfl rfl rfl) rfl rfl rfl ?_
  refine LL.nilS ?_
  refine CC.no rfl ?_
  refine CC.skip ?_
  refine EE.thenN ?_
  refine CC.seq ?_
  refine CC.freeZ (fun W_ j => j < W_.heap.size ∧ (j ≠ g395)) (by kernel_rfl) (by kernel_rfl) (fun W869 b868 z870 => ?_)
  replace b393 := b393.trans (b868.mono b393.size)
  replace b381 := b381.trans (b868.mono b381.size)
  replace r11 := r11.up b868
  replace b8 := b8.trans (b868.mono b8.size)
  replace q := q.trans (b868.mono q.size)
  replace r396 := r396.up b868
  have hok : Kept (fun j => j < W869.heap.size ∧ (j ≠ g395)) W869 W869 := Kept.refl _ _
  have fzr11 := fzRow (K := fun j => j < W869.heap.size ∧ (j ≠ g395)) r11 ⟨r11.lt, (by first | trivial | omega)⟩
  refine AA.pure 0 rfl hok (by kernel_rfl) (fun w' b' => R.field rfl rfl (I.fld rfl)) rfl rfl ?_
  refine AA.pure 2 rfl hok (by kernel_rfl) (fun w' b' => R.move rfl rfl) rfl rfl ?_
  refine AA.two 1 3 (by kernel_rfl) ?_ ?_
  refine SR.val rfl (R.load rfl rfl (I.ld1 rfl (RowL.cell r396 rfl))) rfl rfl hok ?_
  refine AA.one 3 (by kernel_rfl) ?_
  (refine SR.val rfl (R.slice rfl rfl rfl rfl rfl (I.slFrom (lo := 8) rfl (by omega) (by omega) (by omega))) rfl rfl hok ?_)
  refine AA.one 4 (by kernel_rfl) ?_
  have l884 := r11.lt
  have l885 := r396.lt
  (refine SR.call rfl (R.call rfl rfl rfl) rfl rfl (hrd _ q) ?_; rintro e W883 ⟨v1, v2, rfl, o1, o2, hd12, b880⟩; refine ⟨_, rfl, ?_⟩; obtain ⟨a1, c1, rfl, hc1⟩ := (o1.reads prEnc).form rfl; clear o2 hd12)
  have zb880 := b880.size
  replace b868 := b868.trans (b880.mono b868.size)
  replace b393 := b393.trans (b880.mono b393.size)
  replace b381 := b381.trans (b880.mono b381.size)
  replace r11 := r11.up b880
  replace b8 := b8.trans (b880.mono b8.size)
  replace q := q.trans (b880.mono q.size)
  replace r396 := r396.up b880
  replace hok := hok.trans (bkept b880 (fun j h => by have := h.1; have := hok.size; omega))
  have y889 := hok.size
  refine ⟨hok, ?_⟩
  refine AA.pure 5 rfl hok (by kernel_rfl) (fun w' b' => R.move rfl rfl) rfl rfl ?_
  refine AA.pure 6 rfl hok (by kernel_rfl) (fun w' b' => R.extract rfl rfl rfl) rfl rfl ?_
  refine AA.pure 7 rfl hok (by kernel_rfl) (fun w' b' => R.extract rfl rfl rfl) rfl rfl ?_
  refine AA.pure 8 rfl hok (by kernel_rfl) (fun w' b' => R.field rfl rfl (I.fld rfl)) rfl rfl ?_
  refine AA.one 9 (by kernel_rfl) ?_
  refine ZR.store rfl rfl rfl rfl rfl r396 (by exact Nat.le_of_ble_eq_true rfl) rfl rfl rfl rfl ?_
  intro W900 r901 b899 z902
  have hlb899 := r396.lt
  replace r901 : RowL W900 _ 29 [Value.int IntKind.i64 ↑(x0 % 256), Value.int IntKind.i64 ↑(gw ws 1), Value.int IntKind.u64 ↑(gw ws 2), Value.int IntKind.u64 ↑x3, Value.int IntKind.i64 ↑(gw ws 4), Value.slice a1 ps.length c1] := r901
  clear r396
  replace o1 := o1.grown b899 (own_ne o1 (by omega))
  replace b393 := b393.grown b899 b393.size (by rintro k ⟨⟩; omega)
  replace b381 := b381.grown b899 b381.size (by rintro k ⟨⟩; omega)
  replace r11 := r11.gr b899 (by have := r11.lt; omega)
  replace b8 := b8.grown b899 b8.size (by rintro k ⟨⟩; omega)
  replace q := q.grown b899 q.size (by rintro k ⟨⟩; omega)
  replace hok := hok.trans (grown_kept b899 (fun j h => by have := h.1; have := hok.size; omega) (fun j h e => by cases e; have h2 := h.1; have h3 := h.2; omega))
  have r396 := r901
  clear r901
  refine ⟨hok, ?_⟩
  refine AA.done rfl ?_
  clear fzr11 hok
  refine EE.thenN ?_
  refine CC.seq ?_
  refine CC.region ?_
  refine LL.val (R.load rfl rfl (I.ldNc (vs := [Value.int IntKind.i64 ↑(x0 % 256), Value.int IntKind.i64 ↑(gw ws 1), Value.int IntKind.u64 ↑(gw ws 2), Value.int IntKind.u64 ↑x3, Value.int IntKind.i64 ↑(gw ws 4), Value.slice a1 ps.length c1]) (RowL.cells r396 rfl) (by rfl) (by rfl))) rfl rfl rfl ?_
  refine LL.storeN (vs := [Value.int IntKind.i64 ↑(x0 % 256), Value.int IntKind.i64 ↑(gw ws 1), Value.int IntKind.u64 ↑(gw ws 2), Value.int IntKind.u64 ↑x3, Value.int IntKind.i64 ↑(gw ws 4), Value.slice a1 ps.length c1]) rfl rfl rfl rfl r11 (by exact Nat.le_of_ble_eq_true rfl) (ones_of rfl) rfl rfl ?_
  intro W922 r923 b921 z924
  have hlb921 := r11.lt
  replace r923 : RowL W922 _ 29 [Value.int IntKind.i64 ↑(x0 % 256), Value.int IntKind.i64 ↑(gw ws 1), Value.int IntKind.u64 ↑(gw ws 2), Value.int IntKind.u64 ↑x3, Value.int IntKind.i64 ↑(gw ws 4), Value.slice a1 ps.length c1] := r923
  clear r11
  replace o1 := o1.grown b921 (own_ne o1 (by omega))
  replace b8 := b8.grown b921 b8.size (by rintro k ⟨⟩; omega)
  replace q := q.grown b921 q.size (by rintro k ⟨⟩; omega)
  replace r396 := r396.gr b921 (by have := r396.lt; omega)
  have r11 := r923
  clear r923
  refine LL.val (R.assign rfl rfl) rfl rfl rfl ?_
  refine LL.nilS ?_
  refine CC.ret ?_
  refine EE.ret2 rfl ⟨_, rfl, lvNc (RowL.cells0 (by assumption)) (by rfl) (by rfl)⟩ rfl ?_
  exact ⟨⟨_, rfl, OwnsT.lower (by assumption) (by omega)⟩, q⟩
  (refine SR.val rfl (R.slice rfl rfl rfl rfl rfl (I.slFrom (lo := 8) rfl (by omega) (by omega) (by omega))) rfl rfl hok ?_)
  refine AA.one 1 (by kernel_rfl) ?_
  refine SR.val rfl (R.load rfl rfl (I.ld1 rfl (RowL.cell r396 rfl))) rfl rfl hok ?_
  refine AA.one 4 (by kernel_rfl) ?_
  have l947 := r11.lt
  have l948 := r396.lt
  (refine SR.call rfl (R.call rfl rfl rfl) rfl rfl (hrd _ q) ?_; rintro e W946 ⟨v1, v2, rfl, o1, o2, hd12, b943⟩; refine ⟨_, rfl, ?_⟩; obtain ⟨a1, c1, rfl, hc1⟩ := (o1.reads prEnc).form rfl; clear o2 hd12)
  have zb943 := b943.size
  replace b868 := b868.trans (b943.mono b868.size)
  replace b393 := b393.trans (b943.mono b393.size)
  replace b381 := b381.trans (b943.mono b381.size)
  replace r11 := r11.up b943
  replace b8 := b8.trans (b943.mono b8.size)
  replace q := q.trans (b943.mono q.size)
  replace r396 := r396.up b943
  replace hok := hok.trans (bkept b943 (fun j h => by have := h.1; have := hok.size; omega))
  have y952 := hok.size
  refine ⟨hok, ?_⟩
  refine AA.pure 5 rfl hok (by kernel_rfl) (fun w' b' => R.move rfl rfl) rfl rfl ?_
  refine AA.pure 6 rfl hok (by kernel_rfl) (fun w' b' => R.extract rfl rfl rfl) rfl rfl ?_
  refine AA.pure 7 rfl hok (by kernel_rfl) (fun w' b' => R.extract rfl rfl rfl) rfl rfl ?_
  refine AA.pure 8 rfl hok (by kernel_rfl) (fun w' b' => R.field rfl rfl (I.fld rfl)) rfl rfl ?_
  refine AA.one 9 (by kernel_rfl) ?_
  refine ZR.store rfl rfl rfl rfl rfl r396 (by exact Nat.le_of_ble_eq_true rfl) rfl rfl rfl rfl ?_
  intro W963 r964 b962 z965
  have hlb962 := r396.lt
  replace r964 : RowL W963 _ 29 [Value.int IntKind.i64 ↑(x0 % 256), Value.int IntKind.i64 ↑(gw ws 1), Value.int IntKind.u64 ↑(gw ws 2), Value.int IntKind.u64 ↑x3, Value.int IntKind.i64 ↑(gw ws 4), Value.slice a1 ps.length c1] := r964
  clear r396
  replace o1 := o1.grown b962 (own_ne o1 (by omega))
  replace b393 := b393.grown b962 b393.size (by rintro k ⟨⟩; omega)
  replace b381 := b381.grown b962 b381.size (by rintro k ⟨⟩; omega)
  replace r11 := r11.gr b962 (by have := r11.lt; omega)
  replace b8 := b8.grown b962 b8.size (by rintro k ⟨⟩; omega)
  replace q := q.grown b962 q.size (by rintro k ⟨⟩; omega)
  replace hok := hok.trans (grown_kept b962 (fun j h => by have := h.1; have := hok.size; omega) (fun j h e => by cases e; have h2 := h.1; have h3 := h.2; omega))
  have r396 := r964
  clear r964
  refine ⟨hok, ?_⟩
  refine AA.done rfl ?_
  clear fzr11 hok
  refine EE.thenN ?_
  refine CC.seq ?_
  refine CC.region ?_
  refine LL.val (R.load rfl rfl (I.ldNc (vs := [Value.int IntKind.i64 ↑(x0 % 256), Value.int IntKind.i64 ↑(gw ws 1), Value.int IntKind.u64 ↑(gw ws 2), Value.int IntKind.u64 ↑x3, Value.int IntKind.i64 ↑(gw ws 4), Value.slice a1 ps.length c1]) (RowL.cells r396 rfl) (by rfl) (by rfl))) rfl rfl rfl ?_
  refine LL.storeN (vs := [Value.int IntKind.i64 ↑(x0 % 256), Value.int IntKind.i64 ↑(gw ws 1), Value.int IntKind.u64 ↑(gw ws 2), Value.int IntKind.u64 ↑x3, Value.int IntKind.i64 ↑(gw ws 4), Value.slice a1 ps.length c1]) rfl rfl rfl rfl r11 (by exact Nat.le_of_ble_eq_true rfl) (ones_of rfl) rfl rfl ?_
  intro W985 r986 b984 z987
  have hlb984 := r11.lt
  replace r986 : RowL W985 _ 29 [Value.int IntKind.i64 ↑(x0 % 256), Value.int IntKind.i64 ↑(gw ws 1), Value.int IntKind.u64 ↑(gw ws 2), Value.int IntKind.u64 ↑x3, Value.int IntKind.i64 ↑(gw ws 4), Value.slice a1 ps.length c1] := r986
  clear r11
  replace o1 := o1.grown b984 (own_ne o1 (by omega))
  replace b8 := b8.grown b984 b8.size (by rintro k ⟨⟩; omega)
  replace q := q.grown b984 q.size (by rintro k ⟨⟩; omega)
  replace r396 := r396.gr b984 (by have := r396.lt; omega)
  have r11 := r986
  clear r986
  refine LL.val (R.assign rfl rfl) rfl rfl rfl ?_
  refine LL.nilS ?_
  refine CC.ret ?_
  refine EE.ret2 rfl ⟨_, rfl, lvNc (RowL.cells0 (by assumption)) (by rfl) (by rfl)⟩ rfl ?_
  exact ⟨⟨_, rfl, OwnsT.lower (by assumption) (by omega)⟩, q⟩
end Go.Proofs.Ytfplilpefhhpnaa
/- node: the document's Check (written by gennd21.py). -/
namespace Go.Proofs.Ytfplilpefhhpnaa
set_option linter.unusedVariables false
set_option linter.unusedSimpArgs false
open Go.RowKit Go.Shelf
set_option maxRecDepth 100000
set_option maxHeartbeats 8000000
def okPr (l lo : Nat) (x : Pr) : Prop := okP l x.2 ∧ okK l lo x.1
theorem rCheck_no (n : Nat) (v : Value) (ws : List Nat) (w : World) (hv : ReadsT uE 1 w v ws) (hn : ws.length = n) (hb : ∀ x ∈ ws, x < 18446744073709551616) (hP : ¬nodeP ws) : Calls Try.prog 14 #[v] w fun e w' => e = .returned (.int .i64 (210)) ∧ Below w.heap.size w w' := by
  have q := Below.refl w.heap.size w
  obtain ⟨a, c, rfl, hc⟩ := hv.form hn
  have hof := fun W (b : Below w.heap.size w W) => rOf_no n _ ws W (hv.up b) hn hb hP
  clear hv hb
  refine X.fn Try.func14 rfl (n := 58) rfl rfl ?_
  refine CC.seq ?_
  refine CC.region ?_
  refine LL.val (R.assign rfl rfl) rfl rfl rfl ?_
  refine LL.nilS ?_
  refine CC.seq ?_
  refine CC.region ?_
  refine LL.val (R.move rfl rfl) rfl rfl rfl ?_
  (refine LL.call (R.call rfl rfl rfl) rfl rfl rfl (hof _ q) ?_; rintro e W18 ⟨rfl, b15⟩; refine ⟨_, rfl, ?_⟩)
  have zb15 := b15.size
  replace q := q.trans (b15.mono q.size)
  refine LL.val (R.move rfl rfl) rfl rfl rfl ?_
  refine LL.val (R.extract rfl rfl rfl) rfl rfl rfl ?_
  refine LL.val (R.extract rfl rfl rfl) rfl rfl rfl ?_
  refine LL.alloc ([Value.int IntKind.i64 0, Value.int IntKind.i64 0, Value.int IntKind.u64 0, Value.int IntKind.u64 0, Value.int IntKind.i64 0, Value.slice none 0 0]) rfl rfl rfl rfl rfl ?_
  intro W51 g52 eg52 r53 z54 b50
  replace b15 := b15.trans (b50.mono b15.size)
  replace q := q.trans (b50.mono q.size)
  refine LL.storeN (vs := [Value.int IntKind.i64 0, Value.int IntKind.i64 0, Value.int IntKind.u64 ↑0, Value.int IntKind.u64 ↑0, Value.int IntKind.i64 0, nilV]) rfl rfl rfl rfl r53 (by exact Nat.le_of_ble_eq_true rfl) (ones_of rfl) rfl rfl ?_
  intro W64 r65 b63 z66
  have hlb63 := r53.lt
  replace r65 : RowL W64 _ 29 [Value.int IntKind.i64 0, Value.int IntKind.i64 0, Value.int IntKind.u64 ↑0, Value.int IntKind.u64 ↑0, Value.int IntKind.i64 0, nilV] := r65
  clear r53
  replace b50 := b50.grown b63 b50.size (by rintro k ⟨⟩; omega)
  replace b15 := b15.grown b63 b15.size (by rintro k ⟨⟩; omega)
  replace q := q.grown b63 q.size (by rintro k ⟨⟩; omega)
  have r53 := r65
  clear r65
  refine LL.val (R.assign rfl rfl) rfl rfl rfl ?_
  refine LL.nilS ?_
  refine CC.seq ?_
  refine CC.seq ?_
  refine CC.region ?_
  refine LL.val (R.move rfl rfl) rfl rfl rfl ?_
  refine LL.val (R.neT rfl rfl rfl (by omega)) rfl rfl rfl ?_
  refine LL.nilS ?_
  refine CC.yes rfl ?_
  refine CC.seq ?_
  refine CC.region ?_
  refine LL.val (R.move rfl rfl) rfl rfl rfl ?_
  refine LL.val (R.assign rfl rfl) rfl rfl rfl ?_
  refine LL.nilS ?_
  refine CC.ret ?_
  refine EE.thenR ?_
  refine EE.ret _ rfl rfl ?_
  exact ⟨rfl, q⟩
--C ref09_Check | hck @w (q.trans (b'.mono q.size)) | ⟨rfl, @b⟩
--C ref09_Check | hck @w q | ⟨rfl, @b⟩
--C ref11_Right | hrt @w | S
theorem rCheck_row (n : Nat) (v : Value) (ws : List Nat) (w : World) (hv : ReadsT uE 1 w v ws) (hn : ws.length = n) (hb : ∀ x ∈ ws, x < 18446744073709551616) (hP : nodeP ws) (b : Bool) (hb2 : b = true ↔ ∀ x ∈ readF (gw ws 3) (ws.drop 8), okPr (gw ws 0 % 256) (gw ws 2) x) (cN : Nat) (hcT : setP (gw ws 3) (ws.drop 8) ∧ b = true → cN = 0) (hcF : ¬(setP (gw ws 3) (ws.drop 8) ∧ b = true) → cN = 190) : Calls Try.prog 14 #[v] w fun e w' => e = .returned (.int .i64 (cN : Int)) ∧ Below w.heap.size w w' := by
  have q := Below.refl w.heap.size w
  obtain rfl : n = 64 := hn.symm.trans hP.1
  obtain ⟨bk, off, c, rfl, hc⟩ := sl64 hv hn
  have hof := fun W (b : Below w.heap.size w W) => rOf_yes 64 _ ws W (hv.up b) hn hb hP
  unfold ndV at hof
  have hd8 : (ws.drop 8).length = 56 := by rw [List.length_drop, hn]
  have hrow : ¬noRow (gw ws 3) 56 := hd_row hP.2 rfl
  have hs : ∀ W, Below w.heap.size w W → ReadsT uE 1 W (.slice (some ⟨bk, off + 8 * 1, none⟩) (64 - 8) (c - 8)) (ws.drop 8) := fun W b => by
    have := ((uE_reads hv).below b).from 8 (by decide)
    rw [show (ints .u64 ws).drop 8 = ints .u64 (ws.drop 8) by simp [ints]] at this
    exact reads_uE this
  have hck := fun W (b : Below w.heap.size w W) => dcheck_any (gw ws 3) 56 _ (ws.drop 8) W (hs W b) hd8 (by decide)
  unfold checkF at hck
  rw [hd8] at hck
  have hN28 : (readF (gw ws 3) (ws.drop 8)).length ≤ 28 := by
    have := readF_len (gw ws 3) (ws.drop 8)
    rw [hd8] at this
    omega
  obtain ⟨ps, eps⟩ : ∃ x, readF (gw ws 3) (ws.drop 8) = x := ⟨_, rfl⟩
  obtain ⟨N, hN⟩ : ∃ N, ps.length = N := ⟨_, rfl⟩
  obtain ⟨l0, hl0⟩ : ∃ l, gw ws 0 % 256 = l := ⟨_, rfl⟩
  obtain ⟨lo, hlo⟩ : ∃ l, gw ws 2 = l := ⟨_, rfl⟩
  obtain ⟨s1, hs1⟩ : ∃ l, gw ws 1 = l := ⟨_, rfl⟩
  obtain ⟨wy, hwy⟩ : ∃ l, gw ws 4 = l := ⟨_, rfl⟩
  obtain ⟨le, hle⟩ : ∃ l, gw ws 3 = l := ⟨_, rfl⟩
  rw [eps] at hof hN28 hb2
  rw [hl0] at hof hb2
  rw [hlo] at hof hb2
  rw [hs1, hwy] at hof
  rw [hle] at hof hck hcT hcF hrow
  rw [hN] at hN28
  rw [if_neg hrow] at hck
  clear hv hb hP eps hs hl0 hlo hle hrow hs1 hwy
  by_cases hset : setP le (ws.drop 8)
  case neg =>
    rw [if_neg hset] at hck
    obtain rfl := hcF fun h => hset h.1
    clear hset hb2 hcT hcF
    refine X.fn Try.func14 rfl (n := 58) rfl rfl ?_
    refine CC.seq ?_
    refine CC.region ?_
    refine LL.val (R.assign rfl rfl) rfl rfl rfl ?_
    refine LL.nilS ?_
    refine CC.seq ?_
    refine CC.region ?_
    refine LL.val (R.move rfl rfl) rfl rfl rfl ?_
    (refine LL.call (R.call rfl rfl rfl) rfl rfl rfl (hof _ q) ?_; rintro e W18 ⟨⟨vo, rfl, oo⟩, b15⟩; refine ⟨_, rfl, ?_⟩; obtain ⟨ao, co, rfl, hco⟩ := (oo.reads prEnc).form hN; clear oo)
    have zb15 := b15.size
    replace q := q.trans (b15.mono q.size)
    refine LL.val (R.move rfl rfl) rfl rfl rfl ?_
    refine LL.val (R.extract rfl rfl rfl) rfl rfl rfl ?_
    refine LL.val (R.extract rfl rfl rfl) rfl rfl rfl ?_
    refine LL.alloc ([Value.int IntKind.i64 0, Value.int IntKind.i64 0, Value.int IntKind.u64 0, Value.int IntKind.u64 0, Value.int IntKind.i64 0, Value.slice none 0 0]) rfl rfl rfl rfl rfl ?_
    intro W51 g52 eg52 r53 z54 b50
    replace b15 := b15.trans (b50.mono b15.size)
    replace q := q.trans (b50.mono q.size)
    refine LL.storeN (vs := [Value.int IntKind.i64 ↑l0, Value.int IntKind.i64 ↑s1, Value.int IntKind.u64 ↑lo, Value.int IntKind.u64 ↑le, Value.int IntKind.i64 ↑wy, Value.slice ao N co]) rfl rfl rfl rfl r53 (by exact Nat.le_of_ble_eq_true rfl) (ones_of rfl) rfl rfl ?_
    intro W64 r65 b63 z66
    have hlb63 := r53.lt
    replace r65 : RowL W64 _ 29 [Value.int IntKind.i64 ↑l0, Value.int IntKind.i64 ↑s1, Value.int IntKind.u64 ↑lo, Value.int IntKind.u64 ↑le, Value.int IntKind.i64 ↑wy, Value.slice ao N co] := r65
    clear r53
    replace b50 := b50.grown b63 b50.size (by rintro k ⟨⟩; omega)
    replace b15 := b15.grown b63 b15.size (by rintro k ⟨⟩; omega)
    replace q := q.grown b63 q.size (by rintro k ⟨⟩; omega)
    have r53 := r65
    clear r65
    refine LL.val (R.assign rfl rfl) rfl rfl rfl ?_
    refine LL.nilS ?_
    refine CC.seq ?_
    refine CC.seq ?_
    refine CC.region ?_
    refine LL.val (R.move rfl rfl) rfl rfl rfl ?_
    refine LL.val (R.neF rfl rfl rfl (by omega)) rfl rfl rfl ?_
    refine LL.nilS ?_
    refine CC.no rfl ?_
    refine CC.skip ?_
    refine EE.thenN ?_
    refine CC.seq ?_
    refine CC.seq ?_
    refine CC.grow (by kernel_rfl) (by kernel_rfl) ?_
    refine GG.val (fun w' b' => R.field rfl rfl (I.fld rfl)) rfl rfl ?_
    refine GG.val (fun w' b' => R.load rfl rfl (I.ld1 rfl (RowL.cell (r53.up b') rfl))) rfl rfl ?_
    refine GG.val (fun w' b' => R.move rfl rfl) rfl rfl ?_
    (refine GG.val (fun w' b' => R.slice rfl rfl rfl rfl rfl (I.slFrom (lo := 8) rfl (by omega) (by omega) (by omega))) rfl rfl ?_)
    refine GG.call (fun w' => (R.call rfl rfl rfl)) rfl rfl (fun w' b' => (hck w' (q.trans (b'.mono q.size))).mono fun e W' h => ⟨h.1, b'.trans (h.2.mono b'.size)⟩) ?_
    refine GG.val (fun w' b' => R.neT rfl rfl rfl (by omega)) rfl rfl ?_
    refine GG.nilQ (fun W130 b129 => ?_)
    have zb129 := b129.size
    replace b50 := b50.trans (b129.mono b50.size)
    replace b15 := b15.trans (b129.mono b15.size)
    replace q := q.trans (b129.mono q.size)
    replace r53 := r53.up b129
    refine EE.thenN ?_
    refine CC.yes rfl ?_
    refine CC.seq ?_
    refine CC.region ?_
    refine LL.val (R.assign rfl rfl) rfl rfl rfl ?_
    refine LL.nilS ?_
    refine CC.ret ?_
    refine EE.thenR ?_
    refine EE.ret _ rfl rfl ?_
    exact ⟨rfl, q⟩
  rw [if_pos hset] at hck
  replace hcT := fun h => hcT ⟨hset, h⟩
  replace hcF := fun (h : b = false) => hcF fun k => by rw [h] at k; cases k.2
  clear hset
  refine X.fn Try.func14 rfl (n := 58) rfl rfl ?_
  refine CC.seq ?_
  refine CC.region ?_
  refine LL.val (R.assign rfl rfl) rfl rfl rfl ?_
  refine LL.nilS ?_
  refine CC.seq ?_
  refine CC.region ?_
  refine LL.val (R.move rfl rfl) rfl rfl rfl ?_
  (refine LL.call (R.call rfl rfl rfl) rfl rfl rfl (hof _ q) ?_; rintro e Wa18 ⟨⟨vo, rfl, oo⟩, ba15⟩; refine ⟨_, rfl, ?_⟩; obtain ⟨ao, co, rfl, hco⟩ := (oo.reads prEnc).form hN; obtain ⟨X1, hzX1, hpF, q1⟩ := exposeT (oo.reads prEnc); have zX1 := q1.size; clear oo)
  have zba15 := ba15.size
  replace q := q.trans (ba15.mono q.size)
  refine LL.val (R.move rfl rfl) rfl rfl rfl ?_
  refine LL.val (R.extract rfl rfl rfl) rfl rfl rfl ?_
  refine LL.val (R.extract rfl rfl rfl) rfl rfl rfl ?_
  refine LL.alloc ([Value.int IntKind.i64 0, Value.int IntKind.i64 0, Value.int IntKind.u64 0, Value.int IntKind.u64 0, Value.int IntKind.i64 0, Value.slice none 0 0]) rfl rfl rfl rfl rfl ?_
  intro Wa51 ga52 ega52 ra53 za54 ba50
  replace ba15 := ba15.trans (ba50.mono ba15.size)
  replace q1 := q1.trans (ba50.mono q1.size)
  replace q := q.trans (ba50.mono q.size)
  refine LL.storeN (vs := [Value.int IntKind.i64 ↑l0, Value.int IntKind.i64 ↑s1, Value.int IntKind.u64 ↑lo, Value.int IntKind.u64 ↑le, Value.int IntKind.i64 ↑wy, Value.slice ao N co]) rfl rfl rfl rfl ra53 (by exact Nat.le_of_ble_eq_true rfl) (ones_of rfl) rfl rfl ?_
  intro Wa64 ra65 ba63 za66
  have hlba63 := ra53.lt
  replace ra65 : RowL Wa64 _ 29 [Value.int IntKind.i64 ↑l0, Value.int IntKind.i64 ↑s1, Value.int IntKind.u64 ↑lo, Value.int IntKind.u64 ↑le, Value.int IntKind.i64 ↑wy, Value.slice ao N co] := ra65
  clear ra53
  replace ba50 := ba50.grown ba63 ba50.size (by rintro k ⟨⟩; omega)
  replace ba15 := ba15.grown ba63 ba15.size (by rintro k ⟨⟩; omega)
  replace q1 := q1.grown ba63 q1.size (by rintro k ⟨⟩; omega)
  replace q := q.grown ba63 q.size (by rintro k ⟨⟩; omega)
  have ra53 := ra65
  clear ra65
  refine LL.val (R.assign rfl rfl) rfl rfl rfl ?_
  refine LL.nilS ?_
  refine CC.seq ?_
  refine CC.seq ?_
  refine CC.region ?_
  refine LL.val (R.move rfl rfl) rfl rfl rfl ?_
  refine LL.val (R.neF rfl rfl rfl (by omega)) rfl rfl rfl ?_
  refine LL.nilS ?_
  refine CC.no rfl ?_
  refine CC.skip ?_
  refine EE.thenN ?_
  refine CC.seq ?_
  refine CC.seq ?_
  refine CC.grow (by kernel_rfl) (by kernel_rfl) ?_
  refine GG.val (fun w' b' => R.field rfl rfl (I.fld rfl)) rfl rfl ?_
  refine GG.val (fun w' b' => R.load rfl rfl (I.ld1 rfl (RowL.cell (ra53.up b') rfl))) rfl rfl ?_
  refine GG.val (fun w' b' => R.move rfl rfl) rfl rfl ?_
  (refine GG.val (fun w' b' => R.slice rfl rfl rfl rfl rfl (I.slFrom (lo := 8) rfl (by omega) (by omega) (by omega))) rfl rfl ?_)
  refine GG.call (fun w' => (R.call rfl rfl rfl)) rfl rfl (fun w' b' => (hck w' (q.trans (b'.mono q.size))).mono fun e W' h => ⟨h.1, b'.trans (h.2.mono b'.size)⟩) ?_
  refine GG.val (fun w' b' => R.neF rfl rfl rfl (by omega)) rfl rfl ?_
  refine GG.nilQ (fun Wa130 ba129 => ?_)
  have zba129 := ba129.size
  replace ba50 := ba50.trans (ba129.mono ba50.size)
  replace ba15 := ba15.trans (ba129.mono ba15.size)
  replace q1 := q1.trans (ba129.mono q1.size)
  replace q := q.trans (ba129.mono q.size)
  replace ra53 := ra53.up ba129
  refine EE.thenN ?_
  refine CC.no rfl ?_
  refine CC.skip ?_
  refine EE.thenN ?_
  refine CC.seq ?_
  refine CC.seq ?_
  refine CC.region ?_
  refine LL.val (R.assign rfl rfl) rfl rfl rfl ?_
  refine LL.nilS ?_
  refine CC.block ?_
  have yq := q.size
  have yq1 := q1.size
  refine CC.loop (α := Nat) (fun i => [(0, .slice (some ⟨bk, off, none⟩) 64 c), (3, .pointer (some ⟨ga52, 0, none⟩)), (5, .int .i64 (i : Int))]) (fun i W => i ≤ N ∧ Below w.heap.size w W ∧ Below X1.heap.size X1 W ∧ RowL W ga52 29 [.int .i64 (l0 : Int), .int .i64 (s1 : Int), .int .u64 (lo : Int), .int .u64 (le : Int), .int .i64 (wy : Int), .slice ao N co] ∧ ∀ j x, j < i → ps[j]? = some x → okPr l0 lo x) (fun i => N - i) 0 ⟨rfl, rfl, rfl, trivial⟩ ⟨Nat.zero_le _, q, q1, by assumption, fun j x h => absurd h (Nat.not_lt_zero _)⟩ ?_
  clear q q1 yq yq1
  rintro i W ⟨hi, q, q1, rn, hall⟩
  have yq := q.size
  have yq1 := q1.size
  show CC none Try.prog _ 58 [] (sl [(0, .slice (some ⟨bk, off, none⟩) 64 c), (3, .pointer (some ⟨ga52, 0, none⟩)), (5, .int .i64 (i : Int))]) _ W
  by_cases hlt : i < N
  case neg =>
    obtain rfl : N = i := by omega
    obtain rfl := hcT (hb2.2 fun x hx => by
      obtain ⟨j, hj⟩ := List.mem_iff_getElem?.1 hx
      exact hall j x (by have := (List.getElem?_eq_some_iff.1 hj).1; omega) hj)
    refine CC.seq ?_
    refine CC.seq ?_
    refine CC.region ?_
    refine LL.val (R.move rfl rfl) rfl rfl rfl ?_
    refine LL.val (R.field rfl rfl (I.fld rfl)) rfl rfl rfl ?_
    refine LL.val (R.load rfl rfl (I.ld1 rfl (RowL.cell rn rfl))) rfl rfl rfl ?_
    refine LL.val (R.len rfl rfl rfl rfl) rfl rfl rfl ?_
    refine LL.val (R.ltF rfl rfl rfl (by omega)) rfl rfl rfl ?_
    refine LL.nilS ?_
    refine CC.no rfl ?_
    refine CC.exit ?_
    refine EE.thenX ?_
    refine EE.thenX ?_
    refine EE.inX ?_
    refine EE.thenN ?_
    refine CC.seq ?_
    refine CC.region ?_
    refine LL.val (R.assign rfl rfl) rfl rfl rfl ?_
    refine LL.nilS ?_
    refine CC.ret ?_
    refine EE.ret _ rfl rfl ?_
    exact ⟨rfl, q⟩
  obtain ⟨⟨k1, p1⟩, hx⟩ : ∃ x, ps[i]? = some x := ⟨_, List.getElem?_eq_getElem (by omega)⟩
  obtain ⟨b1, o1, rfl, _, _⟩ := (hpF _ q1).get prEnc hx
  have m1 : CellsN W ⟨b1, o1 + i * 2, none⟩ 2 [.int .u64 (k1 : Int), .int .u64 (p1 : Int)] := (hpF W q1).elemN prEnc hx
  have hmem := List.mem_of_getElem? hx
  by_cases hp : okP l0 p1
  · have hrt := fun X => rrt_d l0 p1 X
    rw [decide_eq_true hp] at hrt
    by_cases hk : okK l0 lo k1
    · have hall2 : ∀ j x, j < i + 1 → ps[j]? = some x → okPr l0 lo x := fun j x hj hx2 => by
        by_cases e : j = i
        · subst e
          rw [hx] at hx2
          cases hx2
          exact ⟨hp, hk⟩
        · exact hall j x (by omega) hx2
      unfold okK at hk
      clear hall hb2 hp hmem
      refine CC.seq ?_
      refine CC.seq ?_
      refine CC.region ?_
      refine LL.val (R.move rfl rfl) rfl rfl rfl ?_
      refine LL.val (R.field rfl rfl (I.fld rfl)) rfl rfl rfl ?_
      refine LL.val (R.load rfl rfl (I.ld1 rfl (RowL.cell rn rfl))) rfl rfl rfl ?_
      refine LL.val (R.len rfl rfl rfl rfl) rfl rfl rfl ?_
      refine LL.val (R.ltT rfl rfl rfl (by omega)) rfl rfl rfl ?_
      refine LL.nilS ?_
      refine CC.yes rfl ?_
      refine CC.skip ?_
      refine EE.thenN ?_
      refine CC.seq ?_
      refine CC.block ?_
      refine CC.seq ?_
      refine CC.region ?_
      refine LL.val (R.field rfl rfl (I.fld rfl)) rfl rfl rfl ?_
      refine LL.val (R.load rfl rfl (I.ld1 rfl (RowL.cell rn rfl))) rfl rfl rfl ?_
      refine LL.val (R.move rfl rfl) rfl rfl rfl ?_
      refine LL.val (R.index rfl rfl rfl (I.ixS rfl (by omega))) rfl rfl rfl ?_
      refine LL.val (R.load rfl rfl (I.ldNc (by assumption) rfl rfl)) rfl rfl rfl ?_
      have lc1 := rn.lt
      refine LL.alloc ([Value.int IntKind.u64 0, Value.int IntKind.u64 0]) rfl rfl rfl rfl rfl ?_
      intro Wc3 gc4 egc4 rc5 zc6 bc2
      replace q := q.trans (bc2.mono q.size)
      replace q1 := q1.trans (bc2.mono q1.size)
      replace rn := rn.up bc2
      replace m1 := m1.up bc2
      refine LL.storeN (vs := [Value.int IntKind.u64 ↑k1, Value.int IntKind.u64 ↑p1]) rfl rfl rfl rfl rc5 (by exact Nat.le_of_ble_eq_true rfl) (ones_of rfl) rfl rfl ?_
      intro Wc8 rc9 bc7 zc10
      have hlbc7 := rc5.lt
      replace rc9 : RowL Wc8 _ 46 [Value.int IntKind.u64 ↑k1, Value.int IntKind.u64 ↑p1] := rc9
      clear rc5
      replace bc2 := bc2.grown bc7 bc2.size (by rintro k ⟨⟩; omega)
      replace q := q.grown bc7 q.size (by rintro k ⟨⟩; omega)
      replace q1 := q1.grown bc7 q1.size (by rintro k ⟨⟩; omega)
      replace rn := rn.gr bc7 (by have := rn.lt; omega)
      replace m1 := m1.gr bc7 (by have := m1.lt; omega)
      have rc5 := rc9
      clear rc9
      refine LL.nilS ?_
      refine CC.seq ?_
      refine CC.region ?_
      refine LL.val (R.field rfl rfl (I.fld rfl)) rfl rfl rfl ?_
      refine LL.val (R.load rfl rfl (I.ld1 rfl (RowL.cell rn rfl))) rfl rfl rfl ?_
      refine LL.val (R.field rfl rfl (I.fld rfl)) rfl rfl rfl ?_
      refine LL.val (R.load rfl rfl (I.ld1 rfl (RowL.cell rc5 rfl))) rfl rfl rfl ?_
      refine LL.call (R.call rfl rfl rfl) rfl rfl rfl (hrt _) ?_
      rintro e W' ⟨rfl, rfl⟩
      refine ⟨_, rfl, ?_⟩
      refine LL.val (R.not rfl rfl) rfl rfl rfl ?_
      refine LL.val (R.move rfl rfl) rfl rfl rfl ?_
      refine LL.val (R.field rfl rfl (I.fld rfl)) rfl rfl rfl ?_
      refine LL.val (R.load rfl rfl (I.ld1 rfl (RowL.cell rc5 rfl))) rfl rfl rfl ?_
      refine LL.val (R.field rfl rfl (I.fld rfl)) rfl rfl rfl ?_
      refine LL.val (R.load rfl rfl (I.ld1 rfl (RowL.cell rn rfl))) rfl rfl rfl ?_
      refine LL.val (R.ltF rfl rfl rfl (by omega)) rfl rfl rfl ?_
      refine LL.val (R.pick rfl rfl rfl) rfl rfl rfl ?_
      refine LL.val (R.move rfl rfl) rfl rfl rfl ?_
      refine LL.val (R.field rfl rfl (I.fld rfl)) rfl rfl rfl ?_
      refine LL.val (R.load rfl rfl (I.ld1 rfl (RowL.cell rn rfl))) rfl rfl rfl ?_
      refine LL.vsplit (fun h => R.gtT rfl rfl rfl h) (fun h => R.gtF rfl rfl rfl (Int.not_lt.1 h)) rfl rfl rfl (fun cc11 => ?_) (fun cc11 => ?_)
      refine LL.val (R.move rfl rfl) rfl rfl rfl ?_
      refine LL.val (R.field rfl rfl (I.fld rfl)) rfl rfl rfl ?_
      refine LL.val (R.load rfl rfl (I.ld1 rfl (RowL.cell rc5 rfl))) rfl rfl rfl ?_
      refine LL.val (R.field rfl rfl (I.fld rfl)) rfl rfl rfl ?_
      refine LL.val (R.load rfl rfl (I.ld1 rfl (RowL.cell rn rfl))) rfl rfl rfl ?_
      refine LL.val (R.eqF rfl rfl rfl (by omega)) rfl rfl rfl ?_
      refine LL.val (R.pick rfl rfl rfl) rfl rfl rfl ?_
      refine LL.val (R.pick rfl rfl rfl) rfl rfl rfl ?_
      refine LL.nilS ?_
      refine CC.no rfl ?_
      refine CC.skip ?_
      refine EE.inN ?_
      refine EE.thenN ?_
      refine CC.region ?_
      refine LL.val (R.move rfl rfl) rfl rfl rfl ?_
      refine LL.val (R.addNc rfl rfl rfl rfl (by omega)) rfl rfl rfl ?_
      refine LL.val (R.assign rfl rfl) rfl rfl rfl ?_
      refine LL.nil ?_
      exact EE.round (i + 1) ⟨rfl, rfl, rfl, trivial⟩ ⟨by show i + 1 ≤ N; omega, q, q1, by assumption, hall2⟩ (by show N - (i + 1) < N - i; omega)
      refine LL.val (R.move rfl rfl) rfl rfl rfl ?_
      refine LL.skip rfl rfl ?_
      refine LL.skip rfl rfl ?_
      refine LL.skip rfl rfl ?_
      refine LL.skip rfl rfl ?_
      refine LL.skip rfl rfl ?_
      refine LL.val (R.pick rfl rfl rfl) rfl rfl rfl ?_
      refine LL.val (R.pick rfl rfl rfl) rfl rfl rfl ?_
      refine LL.nilS ?_
      refine CC.no rfl ?_
      refine CC.skip ?_
      refine EE.inN ?_
      refine EE.thenN ?_
      refine CC.region ?_
      refine LL.val (R.move rfl rfl) rfl rfl rfl ?_
      refine LL.val (R.addNc rfl rfl rfl rfl (by omega)) rfl rfl rfl ?_
      refine LL.val (R.assign rfl rfl) rfl rfl rfl ?_
      refine LL.nil ?_
      exact EE.round (i + 1) ⟨rfl, rfl, rfl, trivial⟩ ⟨by show i + 1 ≤ N; omega, q, q1, by assumption, hall2⟩ (by show N - (i + 1) < N - i; omega)
    · obtain rfl := hcF (by cases b with | false => rfl | true => exact absurd (hb2.1 rfl _ hmem).2 hk)
      have hk2 : k1 < lo ∨ (0 < l0 ∧ k1 = lo) := by unfold okK at hk; omega
      clear hall hb2 hp hmem hk
      rcases hk2 with hk2 | hk2
      · refine CC.seq ?_
        refine CC.seq ?_
        refine CC.region ?_
        refine LL.val (R.move rfl rfl) rfl rfl rfl ?_
        refine LL.val (R.field rfl rfl (I.fld rfl)) rfl rfl rfl ?_
        refine LL.val (R.load rfl rfl (I.ld1 rfl (RowL.cell rn rfl))) rfl rfl rfl ?_
        refine LL.val (R.len rfl rfl rfl rfl) rfl rfl rfl ?_
        refine LL.val (R.ltT rfl rfl rfl (by omega)) rfl rfl rfl ?_
        refine LL.nilS ?_
        refine CC.yes rfl ?_
        refine CC.skip ?_
        refine EE.thenN ?_
        refine CC.seq ?_
        refine CC.block ?_
        refine CC.seq ?_
        refine CC.region ?_
        refine LL.val (R.field rfl rfl (I.fld rfl)) rfl rfl rfl ?_
        refine LL.val (R.load rfl rfl (I.ld1 rfl (RowL.cell rn rfl))) rfl rfl rfl ?_
        refine LL.val (R.move rfl rfl) rfl rfl rfl ?_
        refine LL.val (R.index rfl rfl rfl (I.ixS rfl (by omega))) rfl rfl rfl ?_
        refine LL.val (R.load rfl rfl (I.ldNc (by assumption) rfl rfl)) rfl rfl rfl ?_
        have ld1 := rn.lt
        refine LL.alloc ([Value.int IntKind.u64 0, Value.int IntKind.u64 0]) rfl rfl rfl rfl rfl ?_
        intro Wd3 gd4 egd4 rd5 zd6 bd2
        replace q := q.trans (bd2.mono q.size)
        replace q1 := q1.trans (bd2.mono q1.size)
        replace rn := rn.up bd2
        replace m1 := m1.up bd2
        refine LL.storeN (vs := [Value.int IntKind.u64 ↑k1, Value.int IntKind.u64 ↑p1]) rfl rfl rfl rfl rd5 (by exact Nat.le_of_ble_eq_true rfl) (ones_of rfl) rfl rfl ?_
        intro Wd8 rd9 bd7 zd10
        have hlbd7 := rd5.lt
        replace rd9 : RowL Wd8 _ 46 [Value.int IntKind.u64 ↑k1, Value.int IntKind.u64 ↑p1] := rd9
        clear rd5
        replace bd2 := bd2.grown bd7 bd2.size (by rintro k ⟨⟩; omega)
        replace q := q.grown bd7 q.size (by rintro k ⟨⟩; omega)
        replace q1 := q1.grown bd7 q1.size (by rintro k ⟨⟩; omega)
        replace rn := rn.gr bd7 (by have := rn.lt; omega)
        replace m1 := m1.gr bd7 (by have := m1.lt; omega)
        have rd5 := rd9
        clear rd9
        refine LL.nilS ?_
        refine CC.seq ?_
        refine CC.region ?_
        refine LL.val (R.field rfl rfl (I.fld rfl)) rfl rfl rfl ?_
        refine LL.val (R.load rfl rfl (I.ld1 rfl (RowL.cell rn rfl))) rfl rfl rfl ?_
        refine LL.val (R.field rfl rfl (I.fld rfl)) rfl rfl rfl ?_
        refine LL.val (R.load rfl rfl (I.ld1 rfl (RowL.cell rd5 rfl))) rfl rfl rfl ?_
        refine LL.call (R.call rfl rfl rfl) rfl rfl rfl (hrt _) ?_
        rintro e W' ⟨rfl, rfl⟩
        refine ⟨_, rfl, ?_⟩
        refine LL.val (R.not rfl rfl) rfl rfl rfl ?_
        refine LL.val (R.move rfl rfl) rfl rfl rfl ?_
        refine LL.val (R.field rfl rfl (I.fld rfl)) rfl rfl rfl ?_
        refine LL.val (R.load rfl rfl (I.ld1 rfl (RowL.cell rd5 rfl))) rfl rfl rfl ?_
        refine LL.val (R.field rfl rfl (I.fld rfl)) rfl rfl rfl ?_
        refine LL.val (R.load rfl rfl (I.ld1 rfl (RowL.cell rn rfl))) rfl rfl rfl ?_
        refine LL.val (R.ltT rfl rfl rfl (by omega)) rfl rfl rfl ?_
        refine LL.val (R.pick rfl rfl rfl) rfl rfl rfl ?_
        refine LL.val (R.move rfl rfl) rfl rfl rfl ?_
        refine LL.skip rfl rfl ?_
        refine LL.skip rfl rfl ?_
        refine LL.skip rfl rfl ?_
        refine LL.skip rfl rfl ?_
        refine LL.skip rfl rfl ?_
        refine LL.skip rfl rfl ?_
        refine LL.skip rfl rfl ?_
        refine LL.skip rfl rfl ?_
        refine LL.skip rfl rfl ?_
        refine LL.skip rfl rfl ?_
        refine LL.val (R.pick rfl rfl rfl) rfl rfl rfl ?_
        refine LL.nilS ?_
        refine CC.yes rfl ?_
        refine CC.seq ?_
        refine CC.region ?_
        refine LL.val (R.assign rfl rfl) rfl rfl rfl ?_
        refine LL.nilS ?_
        refine CC.ret ?_
        refine EE.inR ?_
        refine EE.thenR ?_
        refine EE.thenR ?_
        refine EE.inR ?_
        refine EE.thenR ?_
        refine EE.ret _ rfl rfl ?_
        exact ⟨rfl, q⟩
      · refine CC.seq ?_
        refine CC.seq ?_
        refine CC.region ?_
        refine LL.val (R.move rfl rfl) rfl rfl rfl ?_
        refine LL.val (R.field rfl rfl (I.fld rfl)) rfl rfl rfl ?_
        refine LL.val (R.load rfl rfl (I.ld1 rfl (RowL.cell rn rfl))) rfl rfl rfl ?_
        refine LL.val (R.len rfl rfl rfl rfl) rfl rfl rfl ?_
        refine LL.val (R.ltT rfl rfl rfl (by omega)) rfl rfl rfl ?_
        refine LL.nilS ?_
        refine CC.yes rfl ?_
        refine CC.skip ?_
        refine EE.thenN ?_
        refine CC.seq ?_
        refine CC.block ?_
        refine CC.seq ?_
        refine CC.region ?_
        refine LL.val (R.field rfl rfl (I.fld rfl)) rfl rfl rfl ?_
        refine LL.val (R.load rfl rfl (I.ld1 rfl (RowL.cell rn rfl))) rfl rfl rfl ?_
        refine LL.val (R.move rfl rfl) rfl rfl rfl ?_
        refine LL.val (R.index rfl rfl rfl (I.ixS rfl (by omega))) rfl rfl rfl ?_
        refine LL.val (R.load rfl rfl (I.ldNc (by assumption) rfl rfl)) rfl rfl rfl ?_
        have le1 := rn.lt
        refine LL.alloc ([Value.int IntKind.u64 0, Value.int IntKind.u64 0]) rfl rfl rfl rfl rfl ?_
        intro We3 ge4 ege4 re5 ze6 be2
        replace q := q.trans (be2.mono q.size)
        replace q1 := q1.trans (be2.mono q1.size)
        replace rn := rn.up be2
        replace m1 := m1.up be2
        refine LL.storeN (vs := [Value.int IntKind.u64 ↑k1, Value.int IntKind.u64 ↑p1]) rfl rfl rfl rfl re5 (by exact Nat.le_of_ble_eq_true rfl) (ones_of rfl) rfl rfl ?_
        intro We8 re9 be7 ze10
        have hlbe7 := re5.lt
        replace re9 : RowL We8 _ 46 [Value.int IntKind.u64 ↑k1, Value.int IntKind.u64 ↑p1] := re9
        clear re5
        replace be2 := be2.grown be7 be2.size (by rintro k ⟨⟩; omega)
        replace q := q.grown be7 q.size (by rintro k ⟨⟩; omega)
        replace q1 := q1.grown be7 q1.size (by rintro k ⟨⟩; omega)
        replace rn := rn.gr be7 (by have := rn.lt; omega)
        replace m1 := m1.gr be7 (by have := m1.lt; omega)
        have re5 := re9
        clear re9
        refine LL.nilS ?_
        refine CC.seq ?_
        refine CC.region ?_
        refine LL.val (R.field rfl rfl (I.fld rfl)) rfl rfl rfl ?_
        refine LL.val (R.load rfl rfl (I.ld1 rfl (RowL.cell rn rfl))) rfl rfl rfl ?_
        refine LL.val (R.field rfl rfl (I.fld rfl)) rfl rfl rfl ?_
        refine LL.val (R.load rfl rfl (I.ld1 rfl (RowL.cell re5 rfl))) rfl rfl rfl ?_
        refine LL.call (R.call rfl rfl rfl) rfl rfl rfl (hrt _) ?_
        rintro e W' ⟨rfl, rfl⟩
        refine ⟨_, rfl, ?_⟩
        refine LL.val (R.not rfl rfl) rfl rfl rfl ?_
        refine LL.val (R.move rfl rfl) rfl rfl rfl ?_
        refine LL.val (R.field rfl rfl (I.fld rfl)) rfl rfl rfl ?_
        refine LL.val (R.load rfl rfl (I.ld1 rfl (RowL.cell re5 rfl))) rfl rfl rfl ?_
        refine LL.val (R.field rfl rfl (I.fld rfl)) rfl rfl rfl ?_
        refine LL.val (R.load rfl rfl (I.ld1 rfl (RowL.cell rn rfl))) rfl rfl rfl ?_
        refine LL.val (R.ltF rfl rfl rfl (by omega)) rfl rfl rfl ?_
        refine LL.val (R.pick rfl rfl rfl) rfl rfl rfl ?_
        refine LL.val (R.move rfl rfl) rfl rfl rfl ?_
        refine LL.val (R.field rfl rfl (I.fld rfl)) rfl rfl rfl ?_
        refine LL.val (R.load rfl rfl (I.ld1 rfl (RowL.cell rn rfl))) rfl rfl rfl ?_
        refine LL.val (R.gtT rfl rfl rfl (by omega)) rfl rfl rfl ?_
        refine LL.val (R.move rfl rfl) rfl rfl rfl ?_
        refine LL.val (R.field rfl rfl (I.fld rfl)) rfl rfl rfl ?_
        refine LL.val (R.load rfl rfl (I.ld1 rfl (RowL.cell re5 rfl))) rfl rfl rfl ?_
        refine LL.val (R.field rfl rfl (I.fld rfl)) rfl rfl rfl ?_
        refine LL.val (R.load rfl rfl (I.ld1 rfl (RowL.cell rn rfl))) rfl rfl rfl ?_
        refine LL.val (R.eqT rfl rfl rfl (by omega)) rfl rfl rfl ?_
        refine LL.val (R.pick rfl rfl rfl) rfl rfl rfl ?_
        refine LL.val (R.pick rfl rfl rfl) rfl rfl rfl ?_
        refine LL.nilS ?_
        refine CC.yes rfl ?_
        refine CC.seq ?_
        refine CC.region ?_
        refine LL.val (R.assign rfl rfl) rfl rfl rfl ?_
        refine LL.nilS ?_
        refine CC.ret ?_
        refine EE.inR ?_
        refine EE.thenR ?_
        refine EE.thenR ?_
        refine EE.inR ?_
        refine EE.thenR ?_
        refine EE.ret _ rfl rfl ?_
        exact ⟨rfl, q⟩
  · have hrt := fun X => rrt_d l0 p1 X
    rw [decide_eq_false hp] at hrt
    obtain rfl := hcF (by cases b with | false => rfl | true => exact absurd (hb2.1 rfl _ hmem).1 hp)
    clear hall hb2 hp hmem
    refine CC.seq ?_
    refine CC.seq ?_
    refine CC.region ?_
    refine LL.val (R.move rfl rfl) rfl rfl rfl ?_
    refine LL.val (R.field rfl rfl (I.fld rfl)) rfl rfl rfl ?_
    refine LL.val (R.load rfl rfl (I.ld1 rfl (RowL.cell rn rfl))) rfl rfl rfl ?_
    refine LL.val (R.len rfl rfl rfl rfl) rfl rfl rfl ?_
    refine LL.val (R.ltT rfl rfl rfl (by omega)) rfl rfl rfl ?_
    refine LL.nilS ?_
    refine CC.yes rfl ?_
    refine CC.skip ?_
    refine EE.thenN ?_
    refine CC.seq ?_
    refine CC.block ?_
    refine CC.seq ?_
    refine CC.region ?_
    refine LL.val (R.field rfl rfl (I.fld rfl)) rfl rfl rfl ?_
    refine LL.val (R.load rfl rfl (I.ld1 rfl (RowL.cell rn rfl))) rfl rfl rfl ?_
    refine LL.val (R.move rfl rfl) rfl rfl rfl ?_
    refine LL.val (R.index rfl rfl rfl (I.ixS rfl (by omega))) rfl rfl rfl ?_
    refine LL.val (R.load rfl rfl (I.ldNc (by assumption) rfl rfl)) rfl rfl rfl ?_
    have lf1 := rn.lt
    refine LL.alloc ([Value.int IntKind.u64 0, Value.int IntKind.u64 0]) rfl rfl rfl rfl rfl ?_
    intro Wf3 gf4 egf4 rf5 zf6 bf2
    replace q := q.trans (bf2.mono q.size)
    replace q1 := q1.trans (bf2.mono q1.size)
    replace rn := rn.up bf2
    replace m1 := m1.up bf2
    refine LL.storeN (vs := [Value.int IntKind.u64 ↑k1, Value.int IntKind.u64 ↑p1]) rfl rfl rfl rfl rf5 (by exact Nat.le_of_ble_eq_true rfl) (ones_of rfl) rfl rfl ?_
    intro Wf8 rf9 bf7 zf10
    have hlbf7 := rf5.lt
    replace rf9 : RowL Wf8 _ 46 [Value.int IntKind.u64 ↑k1, Value.int IntKind.u64 ↑p1] := rf9
    clear rf5
    replace bf2 := bf2.grown bf7 bf2.size (by rintro k ⟨⟩; omega)
    replace q := q.grown bf7 q.size (by rintro k ⟨⟩; omega)
    replace q1 := q1.grown bf7 q1.size (by rintro k ⟨⟩; omega)
    replace rn := rn.gr bf7 (by have := rn.lt; omega)
    replace m1 := m1.gr bf7 (by have := m1.lt; omega)
    have rf5 := rf9
    clear rf9
    refine LL.nilS ?_
    refine CC.seq ?_
    refine CC.region ?_
    refine LL.val (R.field rfl rfl (I.fld rfl)) rfl rfl rfl ?_
    refine LL.val (R.load rfl rfl (I.ld1 rfl (RowL.cell rn rfl))) rfl rfl rfl ?_
    refine LL.val (R.field rfl rfl (I.fld rfl)) rfl rfl rfl ?_
    refine LL.val (R.load rfl rfl (I.ld1 rfl (RowL.cell rf5 rfl))) rfl rfl rfl ?_
    refine LL.call (R.call rfl rfl rfl) rfl rfl rfl (hrt _) ?_
    rintro e W' ⟨rfl, rfl⟩
    refine ⟨_, rfl, ?_⟩
    refine LL.val (R.not rfl rfl) rfl rfl rfl ?_
    refine LL.val (R.move rfl rfl) rfl rfl rfl ?_
    refine LL.skip rfl rfl ?_
    refine LL.skip rfl rfl ?_
    refine LL.skip rfl rfl ?_
    refine LL.skip rfl rfl ?_
    refine LL.skip rfl rfl ?_
    refine LL.val (R.pick rfl rfl rfl) rfl rfl rfl ?_
    refine LL.val (R.move rfl rfl) rfl rfl rfl ?_
    refine LL.skip rfl rfl ?_
    refine LL.skip rfl rfl ?_
    refine LL.skip rfl rfl ?_
    refine LL.skip rfl rfl ?_
    refine LL.skip rfl rfl ?_
    refine LL.skip rfl rfl ?_
    refine LL.skip rfl rfl ?_
    refine LL.skip rfl rfl ?_
    refine LL.skip rfl rfl ?_
    refine LL.skip rfl rfl ?_
    refine LL.val (R.pick rfl rfl rfl) rfl rfl rfl ?_
    refine LL.nilS ?_
    refine CC.yes rfl ?_
    refine CC.seq ?_
    refine CC.region ?_
    refine LL.val (R.assign rfl rfl) rfl rfl rfl ?_
    refine LL.nilS ?_
    refine CC.ret ?_
    refine EE.inR ?_
    refine EE.thenR ?_
    refine EE.thenR ?_
    refine EE.inR ?_
    refine EE.thenR ?_
    refine EE.ret _ rfl rfl ?_
    exact ⟨rfl, q⟩
end Go.Proofs.Ytfplilpefhhpnaa
/- node: Check of the document; Each; the document's Child (written by gennd22.py). -/
namespace Go.Proofs.Ytfplilpefhhpnaa
set_option linter.unusedVariables false
set_option linter.unusedSimpArgs false
open Go.RowKit Go.Shelf
set_option maxRecDepth 100000
set_option maxHeartbeats 8000000
theorem rCheck_any (n : Nat) (v : Value) (ws : List Nat) (w : World) (hv : ReadsT uE 1 w v ws) (hn : ws.length = n) (hb : ∀ x ∈ ws, x < 18446744073709551616) : Calls Try.prog 14 #[v] w fun e w' => e = .returned (.int .i64 (chkN ws : Int)) ∧ Below w.heap.size w w' := by
  unfold chkN
  by_cases hP : nodeP ws
  case neg =>
    rw [if_neg hP]
    exact rCheck_no n v ws w hv hn hb hP
  rw [if_pos hP]
  classical
  have h1 : ndSet ws (gw ws 0) (gw ws 2) (gw ws 3) ↔ setP (gw ws 3) (ws.drop 8) ∧ decide (∀ x ∈ readF (gw ws 3) (ws.drop 8), okPr (gw ws 0 % 256) (gw ws 2) x) = true := by
    rw [decide_eq_true_eq]
    rfl
  refine rCheck_row n v ws w hv hn hb hP (decide (∀ x ∈ readF (gw ws 3) (ws.drop 8), okPr (gw ws 0 % 256) (gw ws 2) x)) decide_eq_true_iff _ (fun h => ?_) (fun h => ?_)
  · rw [if_pos (h1.2 h)]
  · rw [if_neg fun k => h (h1.1 k)]
theorem nEach_yes (n : Nat) (v : Value) (ws : List Nat) (w : World) (hv : ReadsT uE 1 w v ws) (hn : ws.length = n) (hb : ∀ x ∈ ws, x < 18446744073709551616) (hP : nodeP ws) : Calls Try.prog 15 #[v] w fun e w' => ∃ bk a c, e = .returned (.func (.func 75) #[] #[.pointer (some ⟨bk, 0, none⟩)]) ∧ RowL w' bk 96 [.slice a (eachS (gw ws 3) (ws.drop 8)).length c, .int .u64 (gw ws 3 : Int)] ∧ OwnsT uE 1 w' w.heap.size 25 (.slice a (eachS (gw ws 3) (ws.drop 8)).length c) (eachS (gw ws 3) (ws.drop 8)) ∧ w.heap.size ≤ bk ∧ Below w.heap.size w w' := by
  have q := Below.refl w.heap.size w
  obtain rfl : n = 64 := hn.symm.trans hP.1
  obtain ⟨bk, off, c, rfl, hc⟩ := sl64 hv hn
  have hre : ∀ W, Below w.heap.size w W → Calls Try.prog 28 #[.slice (some ⟨bk, off, none⟩) 64 c] W fun e w' => (∃ vo, e = .returned (.tuple #[vwV ws vo (.slice (some ⟨bk, off, none⟩) 64 c), .int .i64 0]) ∧ OwnsT prE 2 w' W.heap.size 46 vo (readF (gw ws 3) (ws.drop 8))) ∧ Below W.heap.size W w' := fun W b => (nread_any 64 _ ws W (hv.up b) hn hb).mono fun e w' h => ⟨h.1 hP, h.2.2⟩
  have hs : ∀ W, Below w.heap.size w W → ReadsT uE 1 W (.slice (some ⟨bk, off + 8 * 1, none⟩) (64 - 8) (c - 8)) (ws.drop 8) := fun W b => by
    have := ((uE_reads hv).below b).from 8 (by decide)
    rw [show (ints .u64 ws).drop 8 = ints .u64 (ws.drop 8) by simp [ints]] at this
    exact reads_uE this
  have hd8 : (ws.drop 8).length = 56 := by rw [List.length_drop, hn]
  have hpe := fun W (b : Below w.heap.size w W) => peach_any (gw ws 3) 56 _ (ws.drop 8) W (hs W b) hd8 (by decide)
  clear hv hb hs
  refine X.fn Try.func15 rfl (n := 19) rfl rfl ?_
  refine CC.seq ?_
  refine CC.region ?_
  refine LL.val (R.assign rfl rfl) rfl rfl rfl ?_
  refine LL.nilS ?_
  refine CC.seq ?_
  refine CC.region ?_
  refine LL.val (R.move rfl rfl) rfl rfl rfl ?_
  (refine LL.call (R.call rfl rfl rfl) rfl rfl rfl (hre _ q) ?_; rintro e W46 ⟨⟨vo, rfl, oo⟩, b43⟩; refine ⟨_, rfl, ?_⟩; obtain ⟨ao, co, rfl, hco⟩ := (oo.reads prEnc).form rfl; clear oo)
  have zb43 := b43.size
  replace q := q.trans (b43.mono q.size)
  refine LL.val (R.move rfl rfl) rfl rfl rfl ?_
  refine LL.val (R.extract rfl rfl rfl) rfl rfl rfl ?_
  refine LL.val (R.extract rfl rfl rfl) rfl rfl rfl ?_
  refine LL.alloc ([Value.int IntKind.i64 0, Value.int IntKind.i64 0, Value.int IntKind.u64 0, Value.int IntKind.u64 0, Value.int IntKind.i64 0, Value.slice none 0 0, Value.slice none 0 0]) rfl rfl rfl rfl rfl ?_
  intro W135 g136 eg136 r137 z138 b134
  replace b43 := b43.trans (b134.mono b43.size)
  replace q := q.trans (b134.mono q.size)
  refine LL.storeN (vs := [Value.int IntKind.i64 ↑(gw ws 0 % 256), Value.int IntKind.i64 ↑(gw ws 1), Value.int IntKind.u64 ↑(gw ws 2), Value.int IntKind.u64 ↑(gw ws 3), Value.int IntKind.i64 ↑(gw ws 4), Value.slice ao (readF (gw ws 3) (List.drop 8 ws)).length co, Value.slice (some { block := bk, off := off }) 64 c]) rfl rfl rfl rfl r137 (by exact Nat.le_of_ble_eq_true rfl) (ones_of rfl) rfl rfl ?_
  intro W164 r165 b163 z166
  have hlb163 := r137.lt
  replace r165 : RowL W164 _ 70 [Value.int IntKind.i64 ↑(gw ws 0 % 256), Value.int IntKind.i64 ↑(gw ws 1), Value.int IntKind.u64 ↑(gw ws 2), Value.int IntKind.u64 ↑(gw ws 3), Value.int IntKind.i64 ↑(gw ws 4), Value.slice ao (readF (gw ws 3) (List.drop 8 ws)).length co, Value.slice (some { block := bk, off := off }) 64 c] := r165
  clear r137
  replace b134 := b134.grown b163 b134.size (by rintro k ⟨⟩; omega)
  replace b43 := b43.grown b163 b43.size (by rintro k ⟨⟩; omega)
  replace q := q.grown b163 q.size (by rintro k ⟨⟩; omega)
  have r137 := r165
  clear r165
  refine LL.val (R.assign rfl rfl) rfl rfl rfl ?_
  refine LL.nilS ?_
  refine CC.seq ?_
  refine CC.seq ?_
  refine CC.region ?_
  refine LL.val (R.move rfl rfl) rfl rfl rfl ?_
  refine LL.val (R.neF rfl rfl rfl (by omega)) rfl rfl rfl ?_
  refine LL.nilS ?_
  refine CC.no rfl ?_
  refine CC.skip ?_
  refine EE.thenN ?_
  refine CC.seq ?_
  refine CC.freeZ (fun W_ j => j < W_.heap.size ∧ (True)) (by kernel_rfl) (by kernel_rfl) (fun W240 b239 z241 => ?_)
  replace b134 := b134.trans (b239.mono b134.size)
  replace b43 := b43.trans (b239.mono b43.size)
  replace q := q.trans (b239.mono q.size)
  replace r137 := r137.up b239
  have hok : Kept (fun j => j < W240.heap.size ∧ (True)) W240 W240 := Kept.refl _ _
  have fzr137 := fzRow (K := fun j => j < W240.heap.size ∧ (True)) r137 ⟨r137.lt, (by first | trivial | omega)⟩
  refine AA.pure 0 rfl hok (by kernel_rfl) (fun w' b' => R.field rfl rfl (I.fld rfl)) rfl rfl ?_
  refine AA.pure 1 rfl hok (by kernel_rfl) (fun w' b' => R.field rfl rfl (I.fld rfl)) rfl rfl ?_
  refine AA.pure 2 rfl hok (by kernel_rfl) (fun w' b' => R.load rfl rfl (I.ld1 rfl (RowL.cell (fzr137 w' b') rfl))) rfl rfl ?_
  refine AA.pure 3 rfl hok (by kernel_rfl) (fun w' b' => R.move rfl rfl) rfl rfl ?_
  refine AA.one 4 (by kernel_rfl) ?_
  (refine SR.val rfl (R.slice rfl rfl rfl rfl rfl (I.slFrom (lo := 8) rfl (by omega) (by omega) (by omega))) rfl rfl hok ?_)
  refine AA.one 5 (by kernel_rfl) ?_
  have l270 := r137.lt
  (refine SR.call rfl (R.call rfl rfl rfl) rfl rfl (hpe _ q) ?_; rintro e W269 ⟨gb, a5, c5, rfl, rb, oE, hbk, b266⟩; refine ⟨_, rfl, ?_⟩)
  have zb266 := b266.size
  replace b239 := b239.trans (b266.mono b239.size)
  replace b134 := b134.trans (b266.mono b134.size)
  replace b43 := b43.trans (b266.mono b43.size)
  replace q := q.trans (b266.mono q.size)
  replace r137 := r137.up b266
  replace hok := hok.trans (bkept b266 (fun j h => by have := h.1; have := hok.size; omega))
  have y274 := hok.size
  refine ⟨hok, ?_⟩
  refine AA.pure 6 rfl hok (by kernel_rfl) (fun w' b' => R.assign rfl rfl) rfl rfl ?_
  refine AA.done rfl ?_
  clear fzr137 hok
  refine EE.thenN ?_
  refine CC.ret ?_
  refine EE.ret _ rfl rfl ?_
  exact ⟨_, _, _, rfl, by assumption, OwnsT.lower (by assumption) (by omega), by omega, q⟩
end Go.Proofs.Ytfplilpefhhpnaa
/- node: Each of what is no node; the document's Same over nodes (written by gennd27.py). -/
namespace Go.Proofs.Ytfplilpefhhpnaa
set_option linter.unusedVariables false
set_option linter.unusedSimpArgs false
open Go.RowKit Go.Shelf
set_option maxRecDepth 100000
set_option maxHeartbeats 8000000
theorem nEach_no (n : Nat) (v : Value) (ws : List Nat) (w : World) (hv : ReadsT uE 1 w v ws) (hn : ws.length = n) (hb : ∀ x ∈ ws, x < 18446744073709551616) (hP : ¬nodeP ws) (L : List (Nat × Pr)) (hL : L = []) : Calls Try.prog 15 #[v] w fun e w' => ∃ bk a c left E, e = .returned (.func (.func 75) #[] #[.pointer (some ⟨bk, 0, none⟩)]) ∧ RowL w' bk 96 [.slice a E.length c, .int .u64 ((left : Nat) : Int)] ∧ OwnsT uE 1 w' w.heap.size 25 (.slice a E.length c) E ∧ pairS left E = L ∧ E.length ≤ 1048576 ∧ w.heap.size ≤ bk ∧ Below w.heap.size w w' := by
  have q := Below.refl w.heap.size w
  obtain ⟨a, c, rfl, hc⟩ := hv.form hn
  have hre : ∀ W, Below w.heap.size w W → Calls Try.prog 28 #[.slice a n c] W fun e w' => e = .returned (.tuple #[nzV, .int .i64 210]) ∧ Below W.heap.size W w' := fun W b => (nread_any n _ ws W (hv.up b) hn hb).mono fun e w' h => ⟨h.2.1 hP, h.2.2⟩
  have hpe := fun W => peach_any 0 0 nilV [] W ((OwnsT.none (enc := uE) W W.heap.size 25).reads uEnc) rfl (by decide)
  have e0 : eachS 0 [] = [] := by
    unfold eachS
    split <;> rfl
  rw [e0] at hpe
  have e1 : pairS 0 [] = L := by rw [hL]; rfl
  clear hv hb
  refine X.fn Try.func15 rfl (n := 19) rfl rfl ?_
  refine CC.seq ?_
  refine CC.region ?_
  refine LL.val (R.assign rfl rfl) rfl rfl rfl ?_
  refine LL.nilS ?_
  refine CC.seq ?_
  refine CC.region ?_
  refine LL.val (R.move rfl rfl) rfl rfl rfl ?_
  (refine LL.call (R.call rfl rfl rfl) rfl rfl rfl (hre _ q) ?_; rintro e W46 ⟨rfl, b43⟩; refine ⟨_, rfl, ?_⟩)
  have zb43 := b43.size
  replace q := q.trans (b43.mono q.size)
  refine LL.val (R.move rfl rfl) rfl rfl rfl ?_
  refine LL.val (R.extract rfl rfl rfl) rfl rfl rfl ?_
  refine LL.val (R.extract rfl rfl rfl) rfl rfl rfl ?_
  refine LL.alloc ([Value.int IntKind.i64 0, Value.int IntKind.i64 0, Value.int IntKind.u64 0, Value.int IntKind.u64 0, Value.int IntKind.i64 0, Value.slice none 0 0, Value.slice none 0 0]) rfl rfl rfl rfl rfl ?_
  intro W135 g136 eg136 r137 z138 b134
  replace b43 := b43.trans (b134.mono b43.size)
  replace q := q.trans (b134.mono q.size)
  refine LL.storeN (vs := [Value.int IntKind.i64 0, Value.int IntKind.i64 0, Value.int IntKind.u64 ↑0, Value.int IntKind.u64 ↑0, Value.int IntKind.i64 0, nilV, nilV]) rfl rfl rfl rfl r137 (by exact Nat.le_of_ble_eq_true rfl) (ones_of rfl) rfl rfl ?_
  intro W164 r165 b163 z166
  have hlb163 := r137.lt
  replace r165 : RowL W164 _ 70 [Value.int IntKind.i64 0, Value.int IntKind.i64 0, Value.int IntKind.u64 ↑0, Value.int IntKind.u64 ↑0, Value.int IntKind.i64 0, nilV, nilV] := r165
  clear r137
  replace b134 := b134.grown b163 b134.size (by rintro k ⟨⟩; omega)
  replace b43 := b43.grown b163 b43.size (by rintro k ⟨⟩; omega)
  replace q := q.grown b163 q.size (by rintro k ⟨⟩; omega)
  have r137 := r165
  clear r165
  refine LL.val (R.assign rfl rfl) rfl rfl rfl ?_
  refine LL.nilS ?_
  refine CC.seq ?_
  refine CC.seq ?_
  refine CC.region ?_
  refine LL.val (R.move rfl rfl) rfl rfl rfl ?_
  refine LL.val (R.neT rfl rfl rfl (by omega)) rfl rfl rfl ?_
  refine LL.nilS ?_
  refine CC.yes rfl ?_
  refine CC.seq ?_
  refine CC.region ?_
  have l251 := r137.lt
  (refine LL.call (R.call rfl rfl rfl) rfl rfl rfl (hpe _) ?_; rintro e W250 ⟨gb, a5, c5, rfl, rb, oE, hbk, b247⟩; refine ⟨_, rfl, ?_⟩)
  have zb247 := b247.size
  replace b134 := b134.trans (b247.mono b134.size)
  replace b43 := b43.trans (b247.mono b43.size)
  replace q := q.trans (b247.mono q.size)
  replace r137 := r137.up b247
  refine LL.val (R.assign rfl rfl) rfl rfl rfl ?_
  refine LL.nilS ?_
  refine CC.ret ?_
  refine EE.thenR ?_
  refine EE.ret _ rfl rfl ?_
  exact ⟨_, _, _, 0, [], rfl, by assumption, OwnsT.lower (by assumption) (by omega), e1, by decide, by omega, q⟩
theorem nEach_is (n : Nat) (v : Value) (ws : List Nat) (w : World) (hv : ReadsT uE 1 w v ws) (hn : ws.length = n) (hb : ∀ x ∈ ws, x < 18446744073709551616) (hP : nodeP ws) (L : List (Nat × Pr)) (hL : pairS (gw ws 3) (ws.drop 8) = L) : Calls Try.prog 15 #[v] w fun e w' => ∃ bk a c left E, e = .returned (.func (.func 75) #[] #[.pointer (some ⟨bk, 0, none⟩)]) ∧ RowL w' bk 96 [.slice a E.length c, .int .u64 ((left : Nat) : Int)] ∧ OwnsT uE 1 w' w.heap.size 25 (.slice a E.length c) E ∧ pairS left E = L ∧ E.length ≤ 1048576 ∧ w.heap.size ≤ bk ∧ Below w.heap.size w w' := by
  have hd8 : (ws.drop 8).length = 56 := by rw [List.length_drop, hP.1]
  have eE : eachS (gw ws 3) (ws.drop 8) = ws.drop 8 := by
    unfold eachS
    rw [hd8, if_neg (hd_row hP.2 rfl)]
  have := nEach_yes n v ws w hv hn hb hP
  rw [eE] at this
  exact this.mono fun e w' ⟨bk, a, c, e1, r, o, hbk, b⟩ => ⟨bk, a, c, _, _, e1, r, o, hL, by rw [hd8]; decide, hbk, b⟩
theorem prsame11 (va vb : Value) (xs : List Pr) (w : World) (ha : ReadsT prE 2 w va xs) (hb : ReadsT prE 2 w vb xs) (hl : xs.length ≤ 1048576) : Calls Try.prog 24 #[va, vb] w fun e w' => e = .returned (.bool true) ∧ Below w.heap.size w w' := by
  have := dprsame_any va vb xs xs w ha hb hl hl
  rwa [decide_eq_true rfl] at this
theorem nsame_T (l s : Int) (lo le : Nat) (wy : Int) (v1 v2 : Value) (ps : List Pr) (w : World) (h1 : ReadsT prE 2 w v1 ps) (h2 : ReadsT prE 2 w v2 ps) (hl : ps.length ≤ 1048576) : Calls Try.prog 11 #[nodeV l s lo le wy v1, nodeV l s lo le wy v2] w fun e w' => e = .returned (.bool true) ∧ Below w.heap.size w w' := by
  have q := Below.refl w.heap.size w
  obtain ⟨N, hN⟩ : ∃ N, ps.length = N := ⟨_, rfl⟩
  obtain ⟨a1, c1, rfl, hc1⟩ := h1.form hN
  obtain ⟨a2, c2, rfl, hc2⟩ := h2.form hN
  have h1F := fun W (b : Below w.heap.size w W) => h1.up b
  have h2F := fun W (b : Below w.heap.size w W) => h2.up b
  clear h1 h2
  refine X.fn Try.func11 rfl (n := 45) rfl rfl ?_
  refine CC.seq ?_
  refine CC.region ?_
  refine LL.box [Value.int IntKind.i64 l, Value.int IntKind.i64 s, Value.int IntKind.u64 ↑lo, Value.int IntKind.u64 ↑le, Value.int IntKind.i64 wy, Value.slice a1 N c1] rfl rfl rfl rfl rfl ?_
  intro W9 g10 eg10 r11 z12 b8
  replace q := q.trans (b8.mono q.size)
  have l21 := r11.lt
  refine LL.box [Value.int IntKind.i64 l, Value.int IntKind.i64 s, Value.int IntKind.u64 ↑lo, Value.int IntKind.u64 ↑le, Value.int IntKind.i64 wy, Value.slice a2 N c2] rfl rfl rfl rfl rfl ?_
  intro W23 g24 eg24 r25 z26 b22
  replace r11 := r11.up b22
  replace b8 := b8.trans (b22.mono b8.size)
  replace q := q.trans (b22.mono q.size)
  refine LL.val (R.assign rfl rfl) rfl rfl rfl ?_
  refine LL.nilS ?_
  refine CC.seq ?_
  refine CC.region ?_
  refine LL.val (R.field rfl rfl (I.fld rfl)) rfl rfl rfl ?_
  refine LL.val (R.load rfl rfl (I.ld1 rfl (RowL.cell r11 rfl))) rfl rfl rfl ?_
  refine LL.val (R.field rfl rfl (I.fld rfl)) rfl rfl rfl ?_
  refine LL.val (R.load rfl rfl (I.ld1 rfl (RowL.cell r25 rfl))) rfl rfl rfl ?_
  refine LL.val (R.eqT rfl rfl rfl (by omega)) rfl rfl rfl ?_
  refine LL.val (R.move rfl rfl) rfl rfl rfl ?_
  refine LL.val (R.field rfl rfl (I.fld rfl)) rfl rfl rfl ?_
  refine LL.val (R.load rfl rfl (I.ld1 rfl (RowL.cell r11 rfl))) rfl rfl rfl ?_
  refine LL.val (R.field rfl rfl (I.fld rfl)) rfl rfl rfl ?_
  refine LL.val (R.load rfl rfl (I.ld1 rfl (RowL.cell r25 rfl))) rfl rfl rfl ?_
  refine LL.val (R.eqT rfl rfl rfl (by omega)) rfl rfl rfl ?_
  refine LL.val (R.pick rfl rfl rfl) rfl rfl rfl ?_
  refine LL.val (R.move rfl rfl) rfl rfl rfl ?_
  refine LL.val (R.field rfl rfl (I.fld rfl)) rfl rfl rfl ?_
  refine LL.val (R.load rfl rfl (I.ld1 rfl (RowL.cell r11 rfl))) rfl rfl rfl ?_
  refine LL.val (R.field rfl rfl (I.fld rfl)) rfl rfl rfl ?_
  refine LL.val (R.load rfl rfl (I.ld1 rfl (RowL.cell r25 rfl))) rfl rfl rfl ?_
  refine LL.val (R.eqT rfl rfl rfl (by omega)) rfl rfl rfl ?_
  refine LL.val (R.pick rfl rfl rfl) rfl rfl rfl ?_
  refine LL.val (R.move rfl rfl) rfl rfl rfl ?_
  refine LL.val (R.field rfl rfl (I.fld rfl)) rfl rfl rfl ?_
  refine LL.val (R.load rfl rfl (I.ld1 rfl (RowL.cell r11 rfl))) rfl rfl rfl ?_
  refine LL.val (R.field rfl rfl (I.fld rfl)) rfl rfl rfl ?_
  refine LL.val (R.load rfl rfl (I.ld1 rfl (RowL.cell r25 rfl))) rfl rfl rfl ?_
  refine LL.val (R.eqT rfl rfl rfl (by omega)) rfl rfl rfl ?_
  refine LL.val (R.pick rfl rfl rfl) rfl rfl rfl ?_
  refine LL.val (R.move rfl rfl) rfl rfl rfl ?_
  refine LL.val (R.field rfl rfl (I.fld rfl)) rfl rfl rfl ?_
  refine LL.val (R.load rfl rfl (I.ld1 rfl (RowL.cell r11 rfl))) rfl rfl rfl ?_
  refine LL.val (R.field rfl rfl (I.fld rfl)) rfl rfl rfl ?_
  refine LL.val (R.load rfl rfl (I.ld1 rfl (RowL.cell r25 rfl))) rfl rfl rfl ?_
  refine LL.val (R.eqT rfl rfl rfl (by omega)) rfl rfl rfl ?_
  refine LL.val (R.pick rfl rfl rfl) rfl rfl rfl ?_
  refine LL.val (R.move rfl rfl) rfl rfl rfl ?_
  refine LL.val (R.field rfl rfl (I.fld rfl)) rfl rfl rfl ?_
  refine LL.val (R.load rfl rfl (I.ld1 rfl (RowL.cell r11 rfl))) rfl rfl rfl ?_
  refine LL.val (R.field rfl rfl (I.fld rfl)) rfl rfl rfl ?_
  refine LL.val (R.load rfl rfl (I.ld1 rfl (RowL.cell r25 rfl))) rfl rfl rfl ?_
  have l382 := r25.lt
  have l383 := r11.lt
  (refine LL.call (R.call rfl rfl rfl) rfl rfl rfl (prsame11 _ _ ps _ (h1F _ q) (h2F _ q) hl) ?_; rintro e W381 ⟨rfl, b378⟩; refine ⟨_, rfl, ?_⟩)
  have zb378 := b378.size
  replace r25 := r25.up b378
  replace b22 := b22.trans (b378.mono b22.size)
  replace r11 := r11.up b378
  replace b8 := b8.trans (b378.mono b8.size)
  replace q := q.trans (b378.mono q.size)
  refine LL.val (R.pick rfl rfl rfl) rfl rfl rfl ?_
  refine LL.val (R.assign rfl rfl) rfl rfl rfl ?_
  refine LL.nilS ?_
  refine CC.ret ?_
  refine EE.ret _ rfl rfl ?_
  exact ⟨rfl, q⟩
end Go.Proofs.Ytfplilpefhhpnaa
/- node: Split (written by gennd8.py). -/
namespace Go.Proofs.Ytfplilpefhhpnaa
set_option linter.unusedVariables false
set_option linter.unusedSimpArgs false
open Go.RowKit Go.Shelf
set_option maxRecDepth 100000
set_option maxHeartbeats 8000000
/-- A split: the new node's words, the old one's stores. -/
def upW (ws : List Nat) (ps : List Pr) (k p m : Nat) : List Nat := layW (layH (7522529147838689024 + gw ws 0 % 256) (gw ws 1) k (if gw ws 0 % 256 = 0 then 9223372036854775808 else p) 0) (ps.drop (if gw ws 0 % 256 = 0 then m else m + 1))
def splN (blk N t : Nat) : List Pt := ((1 : Int), blk) :: (List.range t).map fun u => ((8 + ((2 * (N - 1 - u) : Nat) : Int) + 1 : Int), 0)
theorem splN_succ (blk N t : Nat) : splN blk N (t + 1) = splN blk N t ++ [((8 + ((2 * (N - 1 - t) : Nat) : Int) + 1 : Int), 0)] := by
  unfold splN
  rw [List.range_succ, List.map_append]
  rfl
theorem splN_len (blk N t : Nat) : (splN blk N t).length = t + 1 := by
  unfold splN
  simp
theorem split_yes (n : Nat) (v : Value) (ws : List Nat) (w : World) (hv : ReadsT uE 1 w v ws) (hn : ws.length = n) (hb : ∀ x ∈ ws, x < 18446744073709551616) (hS : nodeS ws) (blk N m k p : Nat) (hk : 1 ≤ blk ∧ blk ≤ 2047) (ps : List Pr) (eps : readF (gw ws 3) (ws.drop 8) = ps) (hN : ps.length = N) (h2 : 2 ≤ N) (hm : m = N / 2) (hx : ps[m]? = some (k, p)) : Calls Try.prog 18 #[v, .int .i64 (blk : Int)] w fun e w' => ∃ g v', e = .returned (.tuple #[.slice (some ⟨g, 0, none⟩) 64 64, v', .int .i64 0]) ∧ RowL w' g 25 (ints .u64 (upW ws ps k p m)) ∧ OwnsT pE 2 w' w.heap.size 68 v' (splN blk N (N - m)) ∧ w.heap.size ≤ g ∧ Below w.heap.size w w' := by
  have q := Below.refl w.heap.size w
  obtain ⟨a, c, rfl, hc⟩ := hv.form hn
  have hset : ∀ W, Below w.heap.size w W → Calls Try.prog 30 #[.slice a n c] W fun e w' => (∃ vo, e = .returned (.tuple #[vwV ws vo (.slice a n c), .int .i64 0]) ∧ OwnsT prE 2 w' W.heap.size 46 vo ps) ∧ Below W.heap.size W w' := fun W b => (nsettled_any n _ ws W (hv.up b) hn hb).mono fun e w' h => by
    rw [← eps]
    exact ⟨h.1 hS, h.2.2.2⟩
  have hN28 : N ≤ 28 := by
    rw [← hN, ← eps]
    have := readF_len (gw ws 3) (ws.drop 8)
    rw [List.length_drop, hS.1.1] at this
    omega
  have hl0 : gw ws 0 % 256 ≤ 12 := by
    have := hS.1.2.a
    unfold ru1 at this
    omega
  have hs1 : gw ws 1 ≤ 2047 := hS.1.2.b
  clear hv hb hS eps
  refine X.fn Try.func18 rfl (n := 66) rfl rfl ?_
  refine CC.seq ?_
  refine CC.region ?_
  refine LL.val (R.assign rfl rfl) rfl rfl rfl ?_
  refine LL.val (R.assign rfl rfl) rfl rfl rfl ?_
  refine LL.val (R.assign rfl rfl) rfl rfl rfl ?_
  refine LL.nilS ?_
  refine CC.fwd (l := 0) (α := Unit) (fun _ => []) (fun _ => []) (fun _ _ => False) rfl ?first ?pass
  case pass =>
    rintro _ W ⟨⟩
  case first =>
    have hcb : IntKind.u64.wrap (blk : Int) = (blk : Int) := by
      rw [IntKind.wrap_u64]
      omega
    refine CC.seq ?_
    refine CC.region ?_
    refine LL.val (R.assign rfl rfl) rfl rfl rfl ?_
    refine LL.nilS ?_
    refine CC.seq ?_
    refine CC.region ?_
    refine LL.val (R.assign rfl rfl) rfl rfl rfl ?_
    refine LL.nilS ?_
    refine CC.seq ?_
    refine CC.region ?_
    refine LL.val (R.move rfl rfl) rfl rfl rfl ?_
    (refine LL.call (R.call rfl rfl rfl) rfl rfl rfl (hset _ q) ?_; rintro e Wa25 ⟨⟨vo, rfl, oo⟩, ba22⟩; refine ⟨_, rfl, ?_⟩; obtain ⟨av, cv, rfl, hcv⟩ := (oo.reads prEnc).form hN; have ooF := fun X (b : Below Wa25.heap.size Wa25 X) => (oo.up b).reads prEnc; have qS := Below.refl Wa25.heap.size Wa25; clear oo)
    have zba22 := ba22.size
    replace q := q.trans (ba22.mono q.size)
    refine LL.val (R.move rfl rfl) rfl rfl rfl ?_
    refine LL.val (R.extract rfl rfl rfl) rfl rfl rfl ?_
    refine LL.val (R.extract rfl rfl rfl) rfl rfl rfl ?_
    refine LL.alloc ([Value.int IntKind.i64 0, Value.int IntKind.i64 0, Value.int IntKind.u64 0, Value.int IntKind.u64 0, Value.int IntKind.i64 0, Value.slice none 0 0, Value.slice none 0 0]) rfl rfl rfl rfl rfl ?_
    intro Wa58 ga59 ega59 ra60 za61 ba57
    replace ba22 := ba22.trans (ba57.mono ba22.size)
    replace qS := qS.trans (ba57.mono qS.size)
    replace q := q.trans (ba57.mono q.size)
    refine LL.storeN (vs := [Value.int IntKind.i64 ↑(gw ws 0 % 256), Value.int IntKind.i64 ↑(gw ws 1), Value.int IntKind.u64 ↑(gw ws 2), Value.int IntKind.u64 ↑(gw ws 3), Value.int IntKind.i64 ↑(gw ws 4), Value.slice av N cv, Value.slice a n c]) rfl rfl rfl rfl ra60 (by exact Nat.le_of_ble_eq_true rfl) (ones_of rfl) rfl rfl ?_
    intro Wa71 ra72 ba70 za73
    have hlba70 := ra60.lt
    replace ra72 : RowL Wa71 _ 70 [Value.int IntKind.i64 ↑(gw ws 0 % 256), Value.int IntKind.i64 ↑(gw ws 1), Value.int IntKind.u64 ↑(gw ws 2), Value.int IntKind.u64 ↑(gw ws 3), Value.int IntKind.i64 ↑(gw ws 4), Value.slice av N cv, Value.slice a n c] := ra72
    clear ra60
    replace ba57 := ba57.grown ba70 ba57.size (by rintro k ⟨⟩; omega)
    replace ba22 := ba22.grown ba70 ba22.size (by rintro k ⟨⟩; omega)
    replace qS := qS.grown ba70 qS.size (by rintro k ⟨⟩; omega)
    replace q := q.grown ba70 q.size (by rintro k ⟨⟩; omega)
    have ra60 := ra72
    clear ra72
    refine LL.val (R.assign rfl rfl) rfl rfl rfl ?_
    refine LL.nilS ?_
    refine CC.seq ?_
    refine CC.seq ?_
    refine CC.region ?_
    refine LL.val (R.move rfl rfl) rfl rfl rfl ?_
    refine LL.val (R.neF rfl rfl rfl (by omega)) rfl rfl rfl ?_
    refine LL.nilS ?_
    refine CC.no rfl ?_
    refine CC.skip ?_
    refine EE.thenN ?_
    refine CC.seq ?_
    refine CC.seq ?_
    refine CC.region ?_
    refine LL.val (R.move rfl rfl) rfl rfl rfl ?_
    refine LL.val (R.ltF rfl rfl rfl (by omega)) rfl rfl rfl ?_
    refine LL.val (R.move rfl rfl) rfl rfl rfl ?_
    refine LL.val (R.move rfl rfl) rfl rfl rfl ?_
    refine LL.val (R.geF rfl rfl rfl (by omega)) rfl rfl rfl ?_
    refine LL.val (R.pick rfl rfl rfl) rfl rfl rfl ?_
    refine LL.val (R.move rfl rfl) rfl rfl rfl ?_
    refine LL.val (R.field rfl rfl (I.fld rfl)) rfl rfl rfl ?_
    refine LL.val (R.field rfl rfl (I.fld rfl)) rfl rfl rfl ?_
    refine LL.val (R.load rfl rfl (I.ld1 rfl (RowL.cell ra60 rfl))) rfl rfl rfl ?_
    refine LL.val (R.len rfl rfl rfl rfl) rfl rfl rfl ?_
    refine LL.val (R.ltF rfl rfl rfl (by omega)) rfl rfl rfl ?_
    refine LL.val (R.pick rfl rfl rfl) rfl rfl rfl ?_
    refine LL.nilS ?_
    refine CC.no rfl ?_
    refine CC.skip ?_
    refine EE.thenN ?_
    refine CC.seq ?_
    refine CC.region ?_
    refine LL.val (R.field rfl rfl (I.fld rfl)) rfl rfl rfl ?_
    refine LL.val (R.field rfl rfl (I.fld rfl)) rfl rfl rfl ?_
    refine LL.val (R.load rfl rfl (I.ld1 rfl (RowL.cell ra60 rfl))) rfl rfl rfl ?_
    refine LL.val (R.len rfl rfl rfl rfl) rfl rfl rfl ?_
    refine LL.val (R.quoNc rfl rfl rfl rfl (by omega) (by omega)) rfl rfl rfl ?_
    refine LL.val (R.assign rfl rfl) rfl rfl rfl ?_
    refine LL.nilS ?_
    refine CC.seq ?_
    refine CC.region ?_
    refine LL.val (R.move rfl rfl) rfl rfl rfl ?_
    refine LL.val (R.move rfl rfl) rfl rfl rfl ?_
    refine LL.val (R.convI rfl rfl rfl rfl (wrapU (by omega) (by omega))) rfl rfl rfl ?_
    refine LL.val (R.buildV rfl rfl (v := .agg #[Value.int IntKind.i64 1, Value.int IntKind.u64 ↑blk]) (fun _ => by kernel_rfl)) rfl rfl rfl ?_
    have la290 := ra60.lt
    refine LL.lit (e := 68) [Value.int IntKind.i64 1, Value.int IntKind.u64 ↑blk] 1 rfl rfl (fun _ => by kernel_rfl) rfl rfl ?_
    intro Wa292 ga293 ega293 ra294 za295 ba291
    replace ba57 := ba57.trans (ba291.mono ba57.size)
    replace ba22 := ba22.trans (ba291.mono ba22.size)
    replace qS := qS.trans (ba291.mono qS.size)
    replace q := q.trans (ba291.mono q.size)
    replace ra60 := ra60.up ba291
    (have o0 : OwnsT pE 2 Wa292 (ga59 + 1) 68 (.slice none 0 0) [] := OwnsT.none _ _ _; refine LL.appendT2 rfl rfl pEnc ElPut o0 (us := [((1 : Int), blk)]) (RowL.readsT pEnc (ts := [((1 : Int), blk)]) (by assumption) 1 (Nat.le_refl _)) (by simp [maxLen]) (by simp) (by omega) rfl rfl ?_; intro v' Wz oa gra hva; replace q := q.grown gra q.size (fun g hg => by have := own_ge o0 g hg; omega); replace qS := qS.grown gra qS.size (fun g hg => by have := own_ge o0 g hg; omega); replace ra60 := ra60.grO gra (own_ne o0 (by omega)); clear o0 hva gra; replace oa : OwnsT pE 2 Wz (ga59 + 1) 68 v' (splN blk N 0) := oa; obtain ⟨a3, c3, rfl, hc3⟩ := (oa.reads pEnc).form (splN_len _ _ 0))
    refine LL.val (R.assign rfl rfl) rfl rfl rfl ?_
    refine LL.nilS ?_
    refine CC.seq ?_
    refine CC.seq ?_
    refine CC.region ?_
    refine LL.val (R.field rfl rfl (I.fld rfl)) rfl rfl rfl ?_
    refine LL.val (R.field rfl rfl (I.fld rfl)) rfl rfl rfl ?_
    refine LL.val (R.load rfl rfl (I.ld1 rfl (RowL.cell ra60 rfl))) rfl rfl rfl ?_
    refine LL.val (R.len rfl rfl rfl rfl) rfl rfl rfl ?_
    refine LL.val (R.subNc rfl rfl rfl rfl (by omega) (by omega)) rfl rfl rfl ?_
    refine LL.val (R.assign rfl rfl) rfl rfl rfl ?_
    refine LL.nilS ?_
    refine CC.block ?_
    refine CC.loop (α := Nat × Value) (fun s => [(7, s.2), (8, .int .i64 ((N / 2 : Nat) : Int)), (9, .pointer (some ⟨ga59, 0, none⟩)), (11, .int .i64 ((N - 1 - s.1 : Nat) : Int))]) (fun s W => s.1 ≤ N - N / 2 ∧ Below w.heap.size w W ∧ Below Wa25.heap.size Wa25 W ∧ RowL W ga59 70 (viewL ((gw ws 0 % 256 : Nat) : Int) (gw ws 1 : Int) (gw ws 2) (gw ws 3) (gw ws 4 : Int) (.slice av N cv) (.slice a n c)) ∧ OwnsT pE 2 W (ga59 + 1) 68 s.2 (splN blk N s.1)) (fun s => N - s.1) (0, .slice a3 1 c3) ⟨rfl, rfl, rfl, rfl, trivial⟩ ⟨Nat.zero_le _, q, qS, ra60, oa⟩ ?_
    clear q qS ra60 oa hc3 hcb
    rintro ⟨t, v⟩ W ⟨ht, q, qS, ra, oa⟩
    simp only at ht oa
    show CC none Try.prog _ 66 [] (sl [(7, v), (8, .int .i64 ((N / 2 : Nat) : Int)), (9, .pointer (some ⟨ga59, 0, none⟩)), (11, .int .i64 ((N - 1 - t : Nat) : Int))]) _ W
    obtain ⟨a3, c3, rfl, hc3⟩ := (oa.reads pEnc).form (splN_len _ _ t)
    have lw := qS.size
    have hw1 : IntKind.u64.wrap (gw ws 1 : Int) = (gw ws 1 : Int) := by
      rw [IntKind.wrap_u64]
      omega
    have hw0 : IntKind.u64.wrap (0 : Int) = ((0 : Nat) : Int) := by
      rw [IntKind.wrap_u64]
      rfl
    by_cases hlt : t < N - N / 2
    case neg =>
      obtain rfl : t = N - N / 2 := by omega
      subst hm
      by_cases h0 : gw ws 0 % 256 = 0
      · have eU : upW ws ps k p (N / 2) = layW (layH (7522529147838689024 + gw ws 0 % 256) (gw ws 1) k 9223372036854775808 0) (ps.drop (N / 2)) := by
          unfold upW
          rw [if_pos h0, if_pos h0]
        rw [eU]
        refine CC.seq ?_
        refine CC.seq ?_
        refine CC.region ?_
        refine LL.val (R.move rfl rfl) rfl rfl rfl ?_
        refine LL.val (R.move rfl rfl) rfl rfl rfl ?_
        refine LL.val (R.geF rfl rfl rfl (by omega)) rfl rfl rfl ?_
        refine LL.nilS ?_
        refine CC.no rfl ?_
        refine CC.exit ?_
        refine EE.thenX ?_
        refine EE.thenX ?_
        refine EE.inX ?_
        refine EE.thenN ?_
        refine CC.seq ?_
        refine CC.seq ?_
        refine CC.region ?_
        refine LL.val (R.move rfl rfl) rfl rfl rfl ?_
        have lb69 := ra.lt
        (refine LL.call (R.call rfl rfl rfl) rfl rfl rfl (upper_leaf _ _ _ _ _ _ _ _ _ _ ps _ k p _ (by assumption) (ooF _ qS) hN (by omega) hx h0) ?_; rintro e Wb68 ⟨rfl, bb65⟩; refine ⟨_, rfl, ?_⟩)
        have zbb65 := bb65.size
        replace q := q.trans (bb65.mono q.size)
        replace qS := qS.trans (bb65.mono qS.size)
        replace ra := ra.up bb65
        replace oa := oa.up bb65
        have lb85 := ra.lt
        (refine LL.call (R.call rfl rfl rfl) rfl rfl rfl (lay_any _ _ (gw ws 1) _ _ _ 0 (ps.drop (N / 2)) _ _ ((ooF _ qS).from prEnc (by omega)) hl0 (by rw [List.length_drop]; omega) hw1 hw0) ?_; rintro e Wb84 ⟨g8, rfl, r8, hg8, bb81⟩; refine ⟨_, rfl, ?_⟩)
        have zbb81 := bb81.size
        replace bb65 := bb65.trans (bb81.mono bb65.size)
        replace q := q.trans (bb81.mono q.size)
        replace qS := qS.trans (bb81.mono qS.size)
        replace ra := ra.up bb81
        replace oa := oa.up bb81
        refine LL.val (R.move rfl rfl) rfl rfl rfl ?_
        refine LL.val (R.assign rfl rfl) rfl rfl rfl ?_
        refine LL.val (R.assign rfl rfl) rfl rfl rfl ?_
        refine LL.val (R.assign rfl rfl) rfl rfl rfl ?_
        refine LL.nilS ?_
        refine CC.ret ?_
        refine EE.thenR ?_
        refine EE.jumpR ?_
        refine EE.ret _ rfl rfl ?_
        exact ⟨_, _, rfl, by assumption, OwnsT.lower (by assumption) (by omega), by omega, q⟩
      · have eU : upW ws ps k p (N / 2) = layW (layH (7522529147838689024 + gw ws 0 % 256) (gw ws 1) k p 0) (ps.drop (N / 2 + 1)) := by
          unfold upW
          rw [if_neg h0, if_neg h0]
        rw [eU]
        have h0' : 0 < gw ws 0 % 256 := by omega
        refine CC.seq ?_
        refine CC.seq ?_
        refine CC.region ?_
        refine LL.val (R.move rfl rfl) rfl rfl rfl ?_
        refine LL.val (R.move rfl rfl) rfl rfl rfl ?_
        refine LL.val (R.geF rfl rfl rfl (by omega)) rfl rfl rfl ?_
        refine LL.nilS ?_
        refine CC.no rfl ?_
        refine CC.exit ?_
        refine EE.thenX ?_
        refine EE.thenX ?_
        refine EE.inX ?_
        refine EE.thenN ?_
        refine CC.seq ?_
        refine CC.seq ?_
        refine CC.region ?_
        refine LL.val (R.move rfl rfl) rfl rfl rfl ?_
        have lc69 := ra.lt
        (refine LL.call (R.call rfl rfl rfl) rfl rfl rfl (upper_in _ _ _ _ _ _ _ _ _ _ ps _ k p _ (by assumption) (ooF _ qS) hN (by omega) hx h0') ?_; rintro e Wc68 ⟨rfl, bc65⟩; refine ⟨_, rfl, ?_⟩)
        have zbc65 := bc65.size
        replace q := q.trans (bc65.mono q.size)
        replace qS := qS.trans (bc65.mono qS.size)
        replace ra := ra.up bc65
        replace oa := oa.up bc65
        have lc85 := ra.lt
        (refine LL.call (R.call rfl rfl rfl) rfl rfl rfl (lay_any _ _ (gw ws 1) _ _ _ 0 (ps.drop (N / 2 + 1)) _ _ ((ooF _ qS).from prEnc (by omega)) hl0 (by rw [List.length_drop]; omega) hw1 hw0) ?_; rintro e Wc84 ⟨g8, rfl, r8, hg8, bc81⟩; refine ⟨_, rfl, ?_⟩)
        have zbc81 := bc81.size
        replace bc65 := bc65.trans (bc81.mono bc65.size)
        replace q := q.trans (bc81.mono q.size)
        replace qS := qS.trans (bc81.mono qS.size)
        replace ra := ra.up bc81
        replace oa := oa.up bc81
        refine LL.val (R.move rfl rfl) rfl rfl rfl ?_
        refine LL.val (R.assign rfl rfl) rfl rfl rfl ?_
        refine LL.val (R.assign rfl rfl) rfl rfl rfl ?_
        refine LL.val (R.assign rfl rfl) rfl rfl rfl ?_
        refine LL.nilS ?_
        refine CC.ret ?_
        refine EE.thenR ?_
        refine EE.jumpR ?_
        refine EE.ret _ rfl rfl ?_
        exact ⟨_, _, rfl, by assumption, OwnsT.lower (by assumption) (by omega), by omega, q⟩
    have e3 := splN_succ blk N t
    have hsl := splN_len blk N t
    refine CC.seq ?_
    refine CC.seq ?_
    refine CC.region ?_
    refine LL.val (R.move rfl rfl) rfl rfl rfl ?_
    refine LL.val (R.move rfl rfl) rfl rfl rfl ?_
    refine LL.val (R.geT rfl rfl rfl (by omega)) rfl rfl rfl ?_
    refine LL.nilS ?_
    refine CC.yes rfl ?_
    refine CC.skip ?_
    refine EE.thenN ?_
    refine CC.seq ?_
    refine CC.block ?_
    refine CC.region ?_
    refine LL.val (R.move rfl rfl) rfl rfl rfl ?_
    refine LL.val (R.move rfl rfl) rfl rfl rfl ?_
    refine LL.val (R.mulcN rfl rfl rfl rfl (by omega)) rfl rfl rfl ?_
    refine LL.val (R.addI rfl rfl rfl (by omega)) rfl rfl rfl ?_
    refine LL.val (R.addI rfl rfl rfl (by omega)) rfl rfl rfl ?_
    refine LL.val (R.buildV rfl rfl (v := .agg #[Value.int IntKind.i64 (8 + ↑(2 * (N - 1 - t)) + 1), Value.int IntKind.u64 0]) (fun _ => by kernel_rfl)) rfl rfl rfl ?_
    have ld1 := ra.lt
    refine LL.lit (e := 68) [Value.int IntKind.i64 (8 + ↑(2 * (N - 1 - t)) + 1), Value.int IntKind.u64 0] 1 rfl rfl (fun _ => by kernel_rfl) rfl rfl ?_
    intro Wd3 gd4 egd4 rd5 zd6 bd2
    replace q := q.trans (bd2.mono q.size)
    replace qS := qS.trans (bd2.mono qS.size)
    replace ra := ra.up bd2
    replace oa := oa.up bd2
    (refine LL.appendT2 rfl rfl pEnc ElPut oa (us := [((8 + ((2 * (N - 1 - t) : Nat) : Int) + 1 : Int), 0)]) (RowL.readsT pEnc (ts := [((8 + ((2 * (N - 1 - t) : Nat) : Int) + 1 : Int), 0)]) (by assumption) 1 (Nat.le_refl _)) (by simp [maxLen]; omega) (by simp; omega) (by omega) rfl rfl ?_; intro v' Wz ob gra hva; replace q := q.grown gra q.size (fun g hg => by have := own_ge oa g hg; omega); replace qS := qS.grown gra qS.size (fun g hg => by have := own_ge oa g hg; omega); replace ra := ra.grO gra (own_ne oa (by omega)); clear oa hva gra; rw [← e3] at ob)
    refine LL.val (R.assign rfl rfl) rfl rfl rfl ?_
    refine LL.nil ?_
    refine EE.inN ?_
    refine EE.thenN ?_
    refine CC.region ?_
    refine LL.val (R.move rfl rfl) rfl rfl rfl ?_
    refine LL.val (R.subNc rfl rfl rfl rfl (by omega) (by omega)) rfl rfl rfl ?_
    refine LL.val (R.assign rfl rfl) rfl rfl rfl ?_
    refine LL.nil ?_
    exact EE.round (t + 1, _) ⟨rfl, rfl, rfl, rfl, trivial⟩ ⟨by show t + 1 ≤ N - N / 2; omega, q, qS, ra, ob⟩ (by show N - (t + 1) < N - t; omega)
end Go.Proofs.Ytfplilpefhhpnaa
/- node: Split's refusals (written by gennd9.py). -/
namespace Go.Proofs.Ytfplilpefhhpnaa
set_option linter.unusedVariables false
set_option linter.unusedSimpArgs false
open Go.RowKit Go.Shelf
set_option maxRecDepth 100000
set_option maxHeartbeats 8000000
end Go.Proofs.Ytfplilpefhhpnaa
/- node: forPair (written by gennd10.py). -/
namespace Go.Proofs.Ytfplilpefhhpnaa
set_option linter.unusedVariables false
set_option linter.unusedSimpArgs false
open Go.RowKit Go.Shelf
set_option maxRecDepth 100000
set_option maxHeartbeats 8000000
abbrev prV (k p : Nat) : Value := .agg #[.int .u64 (k : Int), .int .u64 (p : Int)]
theorem forPair_yes (n : Nat) (v : Value) (ws : List Nat) (w : World) (hv : ReadsT uE 1 w v ws) (hn : ws.length = n) (hb : ∀ x ∈ ws, x < 18446744073709551616) (hS : nodeS ws) (k p : Nat) (h1 : okP (gw ws 0 % 256) p) (h2 : okK (gw ws 0 % 256) (gw ws 2) k) : Calls Try.prog 39 #[v, prV k p] w fun e w' => (∃ vo, e = .returned (.tuple #[vwV ws vo v, .int .i64 0]) ∧ OwnsT prE 2 w' w.heap.size 46 vo (readF (gw ws 3) (ws.drop 8))) ∧ Below w.heap.size w w' := by
  have q := Below.refl w.heap.size w
  obtain ⟨a, c, rfl, hc⟩ := hv.form hn
  have hset : ∀ W, Below w.heap.size w W → Calls Try.prog 30 #[.slice a n c] W fun e w' => (∃ vo, e = .returned (.tuple #[vwV ws vo (.slice a n c), .int .i64 0]) ∧ OwnsT prE 2 w' W.heap.size 46 vo (readF (gw ws 3) (ws.drop 8))) ∧ Below W.heap.size W w' := fun W b => (nsettled_any n _ ws W (hv.up b) hn hb).mono fun e w' h => ⟨h.1 hS, h.2.2.2⟩
  clear hv hb hS
  refine X.fn Try.func39 rfl (n := 28) rfl rfl ?_
  refine CC.seq ?_
  refine CC.region ?_
  refine LL.box [Value.int IntKind.u64 ↑k, Value.int IntKind.u64 ↑p] rfl rfl rfl rfl rfl ?_
  intro W2 g3 eg3 r4 z5 b1
  replace q := q.trans (b1.mono q.size)
  have l6 := r4.lt
  refine LL.alloc ([Value.int IntKind.i64 0, Value.int IntKind.i64 0, Value.int IntKind.u64 0, Value.int IntKind.u64 0, Value.int IntKind.i64 0, Value.slice none 0 0, Value.slice none 0 0]) rfl rfl rfl rfl rfl ?_
  intro W8 g9 eg9 r10 z11 b7
  replace r4 := r4.up b7
  replace b1 := b1.trans (b7.mono b1.size)
  replace q := q.trans (b7.mono q.size)
  refine LL.val (R.assign rfl rfl) rfl rfl rfl ?_
  refine LL.nilS ?_
  refine CC.fwd (l := 0) (α := Unit) (fun _ => []) (fun _ => []) (fun _ _ => False) rfl ?first ?pass
  case pass =>
    rintro _ W ⟨⟩
  case first =>
    refine CC.seq ?_
    refine CC.region ?_
    refine LL.val (R.move rfl rfl) rfl rfl rfl ?_
    have la14 := r10.lt
    have la15 := r4.lt
    (refine LL.call (R.call rfl rfl rfl) rfl rfl rfl (hset _ q) ?_; rintro e Wa13 ⟨⟨vo, rfl, oo⟩, ba10⟩; refine ⟨_, rfl, ?_⟩; obtain ⟨av, cv, rfl, hcv⟩ := (oo.reads prEnc).form rfl; have hkk := Kept.refl (fun j => j < Wa13.heap.size ∧ w.heap.size + 1 < j) Wa13; have ooF := fun X (b : Kept (fun j => j < Wa13.heap.size ∧ w.heap.size + 1 < j) Wa13 X) => oo.kept b fun j h1 h2 => ⟨h2, by omega⟩; clear oo)
    have zba10 := ba10.size
    replace r10 := r10.up ba10
    replace b7 := b7.trans (ba10.mono b7.size)
    replace r4 := r4.up ba10
    replace b1 := b1.trans (ba10.mono b1.size)
    replace q := q.trans (ba10.mono q.size)
    refine LL.val (R.move rfl rfl) rfl rfl rfl ?_
    refine LL.val (R.extract rfl rfl rfl) rfl rfl rfl ?_
    refine LL.val (R.extract rfl rfl rfl) rfl rfl rfl ?_
    have la55 := r10.lt
    have la56 := r4.lt
    refine LL.alloc ([Value.int IntKind.i64 0, Value.int IntKind.i64 0, Value.int IntKind.u64 0, Value.int IntKind.u64 0, Value.int IntKind.i64 0, Value.slice none 0 0, Value.slice none 0 0]) rfl rfl rfl rfl rfl ?_
    intro Wa58 ga59 ega59 ra60 za61 ba57
    replace ba10 := ba10.trans (ba57.mono ba10.size)
    replace hkk := hkk.trans (bkept ba57 (fun j h => by have := h.1; have := hkk.size; omega))
    have ya62 := hkk.size
    replace r10 := r10.up ba57
    replace b7 := b7.trans (ba57.mono b7.size)
    replace r4 := r4.up ba57
    replace b1 := b1.trans (ba57.mono b1.size)
    replace q := q.trans (ba57.mono q.size)
    refine LL.storeN (vs := [Value.int IntKind.i64 ↑(gw ws 0 % 256), Value.int IntKind.i64 ↑(gw ws 1), Value.int IntKind.u64 ↑(gw ws 2), Value.int IntKind.u64 ↑(gw ws 3), Value.int IntKind.i64 ↑(gw ws 4), Value.slice av (readF (gw ws 3) (List.drop 8 ws)).length cv, Value.slice a n c]) rfl rfl rfl rfl ra60 (by exact Nat.le_of_ble_eq_true rfl) (ones_of rfl) rfl rfl ?_
    intro Wa74 ra75 ba73 za76
    have hlba73 := ra60.lt
    replace ra75 : RowL Wa74 _ 70 [Value.int IntKind.i64 ↑(gw ws 0 % 256), Value.int IntKind.i64 ↑(gw ws 1), Value.int IntKind.u64 ↑(gw ws 2), Value.int IntKind.u64 ↑(gw ws 3), Value.int IntKind.i64 ↑(gw ws 4), Value.slice av (readF (gw ws 3) (List.drop 8 ws)).length cv, Value.slice a n c] := ra75
    clear ra60
    replace ba57 := ba57.grown ba73 ba57.size (by rintro k ⟨⟩; omega)
    replace ba10 := ba10.grown ba73 ba10.size (by rintro k ⟨⟩; omega)
    replace hkk := hkk.trans (grown_kept ba73 (fun j h => by have := h.1; have := hkk.size; omega) (fun j h e => by cases e; have h2 := h.1; have h3 := h.2; omega))
    replace r10 := r10.gr ba73 (by have := r10.lt; omega)
    replace b7 := b7.grown ba73 b7.size (by rintro k ⟨⟩; omega)
    replace r4 := r4.gr ba73 (by have := r4.lt; omega)
    replace b1 := b1.grown ba73 b1.size (by rintro k ⟨⟩; omega)
    replace q := q.grown ba73 q.size (by rintro k ⟨⟩; omega)
    have ra60 := ra75
    clear ra75
    refine LL.val (R.assign rfl rfl) rfl rfl rfl ?_
    refine LL.nilS ?_
    refine CC.seq ?_
    refine CC.seq ?_
    refine CC.region ?_
    refine LL.val (R.move rfl rfl) rfl rfl rfl ?_
    refine LL.val (R.neF rfl rfl rfl (by omega)) rfl rfl rfl ?_
    refine LL.nilS ?_
    refine CC.no rfl ?_
    refine CC.skip ?_
    refine EE.thenN ?_
    refine CC.seq ?_
    refine CC.seq ?_
    refine CC.region ?_
    refine LL.val (R.field rfl rfl (I.fld rfl)) rfl rfl rfl ?_
    refine LL.val (R.load rfl rfl (I.ld1 rfl (RowL.cell r4 rfl))) rfl rfl rfl ?_
    refine LL.callBT (R.call rfl rfl rfl) rfl rfl rfl (vptr_d _ _ _ _ _ _ _ _ _ _ (by assumption)) (by first | assumption | omega) (fun Wa138 ba137 => ?_)
    have zba137 := ba137.size
    replace ba57 := ba57.trans (ba137.mono ba57.size)
    replace ba10 := ba10.trans (ba137.mono ba10.size)
    replace hkk := hkk.trans (bkept ba137 (fun j h => by have := h.1; have := hkk.size; omega))
    have ya139 := hkk.size
    replace r10 := r10.up ba137
    replace b7 := b7.trans (ba137.mono b7.size)
    replace r4 := r4.up ba137
    replace b1 := b1.trans (ba137.mono b1.size)
    replace q := q.trans (ba137.mono q.size)
    replace ra60 := ra60.up ba137
    refine LL.val (R.not rfl rfl) rfl rfl rfl ?_
    refine LL.val (R.move rfl rfl) rfl rfl rfl ?_
    refine LL.val (R.field rfl rfl (I.fld rfl)) rfl rfl rfl ?_
    refine LL.val (R.load rfl rfl (I.ld1 rfl (RowL.cell r4 rfl))) rfl rfl rfl ?_
    refine LL.callBT (R.call rfl rfl rfl) rfl rfl rfl (vkey_d _ _ _ _ _ _ _ _ _ _ (by assumption)) (by first | assumption | omega) (fun Wa191 ba190 => ?_)
    have zba190 := ba190.size
    replace ba137 := ba137.trans (ba190.mono ba137.size)
    replace ba57 := ba57.trans (ba190.mono ba57.size)
    replace ba10 := ba10.trans (ba190.mono ba10.size)
    replace hkk := hkk.trans (bkept ba190 (fun j h => by have := h.1; have := hkk.size; omega))
    have ya192 := hkk.size
    replace r10 := r10.up ba190
    replace b7 := b7.trans (ba190.mono b7.size)
    replace r4 := r4.up ba190
    replace b1 := b1.trans (ba190.mono b1.size)
    replace q := q.trans (ba190.mono q.size)
    replace ra60 := ra60.up ba190
    refine LL.val (R.not rfl rfl) rfl rfl rfl ?_
    refine LL.val (R.pick rfl rfl rfl) rfl rfl rfl ?_
    refine LL.nilS ?_
    refine CC.no rfl ?_
    refine CC.skip ?_
    refine EE.thenN ?_
    refine CC.seq ?_
    refine CC.seq ?_
    refine CC.region ?_
    refine LL.val (R.load rfl rfl (I.ldNc (vs := [Value.int IntKind.i64 ↑(gw ws 0 % 256), Value.int IntKind.i64 ↑(gw ws 1), Value.int IntKind.u64 ↑(gw ws 2), Value.int IntKind.u64 ↑(gw ws 3), Value.int IntKind.i64 ↑(gw ws 4), Value.slice av (readF (gw ws 3) (List.drop 8 ws)).length cv, Value.slice a n c]) (RowL.cells ra60 rfl) (by rfl) (by rfl))) rfl rfl rfl ?_
    refine LL.storeN (vs := [Value.int IntKind.i64 ↑(gw ws 0 % 256), Value.int IntKind.i64 ↑(gw ws 1), Value.int IntKind.u64 ↑(gw ws 2), Value.int IntKind.u64 ↑(gw ws 3), Value.int IntKind.i64 ↑(gw ws 4), Value.slice av (readF (gw ws 3) (List.drop 8 ws)).length cv, Value.slice a n c]) rfl rfl rfl rfl r10 (by exact Nat.le_of_ble_eq_true rfl) (ones_of rfl) rfl rfl ?_
    intro Wa234 ra235 ba233 za236
    have hlba233 := r10.lt
    replace ra235 : RowL Wa234 _ 70 [Value.int IntKind.i64 ↑(gw ws 0 % 256), Value.int IntKind.i64 ↑(gw ws 1), Value.int IntKind.u64 ↑(gw ws 2), Value.int IntKind.u64 ↑(gw ws 3), Value.int IntKind.i64 ↑(gw ws 4), Value.slice av (readF (gw ws 3) (List.drop 8 ws)).length cv, Value.slice a n c] := ra235
    clear r10
    replace hkk := hkk.trans (grown_kept ba233 (fun j h => by have := h.1; have := hkk.size; omega) (fun j h e => by cases e; have h2 := h.1; have h3 := h.2; omega))
    replace b7 := b7.grown ba233 b7.size (by rintro k ⟨⟩; omega)
    replace r4 := r4.gr ba233 (by have := r4.lt; omega)
    replace b1 := b1.grown ba233 b1.size (by rintro k ⟨⟩; omega)
    replace q := q.grown ba233 q.size (by rintro k ⟨⟩; omega)
    replace ra60 := ra60.gr ba233 (by have := ra60.lt; omega)
    have r10 := ra235
    clear ra235
    refine LL.val (R.assign rfl rfl) rfl rfl rfl ?_
    refine LL.nilS ?_
    refine CC.ret ?_
    refine EE.thenR ?_
    refine EE.jumpR ?_
    refine EE.ret2 rfl ⟨_, rfl, lvNc (RowL.cells0 (by assumption)) (by rfl) (by rfl)⟩ rfl ?_
    exact ⟨⟨_, rfl, OwnsT.lower (ooF _ hkk) (by omega)⟩, q⟩
end Go.Proofs.Ytfplilpefhhpnaa
/- node: moved, down (written by gennd11.py). -/
namespace Go.Proofs.Ytfplilpefhhpnaa
set_option linter.unusedVariables false
set_option linter.unusedSimpArgs false
open Go.RowKit Go.Shelf
set_option maxRecDepth 100000
set_option maxHeartbeats 8000000
abbrev ptV (a : Int) (v : Nat) : Value := .agg #[.int .i64 a, .int .u64 (v : Int)]
theorem down1_any (a : Int) (x : Nat) (w : World) (h : 0 ≤ a ∧ a ≤ 1000) : Calls Try.prog 78 #[ptV a x] w fun e w' => e = .returned (ptV (a + 8) x) ∧ Below w.heap.size w w' := by
  have q := Below.refl w.heap.size w
  refine X.fn Try.func78 rfl (n := 8) rfl rfl ?_
  refine CC.seq ?_
  refine CC.region ?_
  refine LL.box [Value.int IntKind.i64 a, Value.int IntKind.u64 ↑x] rfl rfl rfl rfl rfl ?_
  intro W2 g3 eg3 r4 z5 b1
  replace q := q.trans (b1.mono q.size)
  have l6 := r4.lt
  refine LL.alloc ([Value.int IntKind.i64 0, Value.int IntKind.u64 0]) rfl rfl rfl rfl rfl ?_
  intro W8 g9 eg9 r10 z11 b7
  replace r4 := r4.up b7
  replace b1 := b1.trans (b7.mono b1.size)
  replace q := q.trans (b7.mono q.size)
  refine LL.nilS ?_
  refine CC.seq ?_
  refine CC.region ?_
  refine LL.val (R.field rfl rfl (I.fld rfl)) rfl rfl rfl ?_
  refine LL.val (R.load rfl rfl (I.ld1 rfl (RowL.cell r4 rfl))) rfl rfl rfl ?_
  refine LL.val (R.addI rfl rfl rfl (by omega)) rfl rfl rfl ?_
  refine LL.val (R.field rfl rfl (I.fld rfl)) rfl rfl rfl ?_
  refine LL.store rfl rfl rfl rfl r4 (by exact Nat.le_of_ble_eq_true rfl) rfl rfl rfl rfl ?_
  intro W13 r14 b12 z15
  have hlb12 := r4.lt
  replace r14 : RowL W13 _ 68 [Value.int IntKind.i64 (a + 8), Value.int IntKind.u64 ↑x] := r14
  clear r4
  replace r10 := r10.gr b12 (by have := r10.lt; omega)
  replace b1 := b1.grown b12 b1.size (by rintro k ⟨⟩; omega)
  replace q := q.grown b12 q.size (by rintro k ⟨⟩; omega)
  have r4 := r14
  clear r14
  refine LL.nilS ?_
  refine CC.seq ?_
  refine CC.region ?_
  refine LL.val (R.load rfl rfl (I.ldNc (vs := [Value.int IntKind.i64 (a + 8), Value.int IntKind.u64 ↑x]) (RowL.cells r4 rfl) (by rfl) (by rfl))) rfl rfl rfl ?_
  refine LL.storeN (vs := [Value.int IntKind.i64 (a + 8), Value.int IntKind.u64 ↑x]) rfl rfl rfl rfl r10 (by exact Nat.le_of_ble_eq_true rfl) (ones_of rfl) rfl rfl ?_
  intro W17 r18 b16 z19
  have hlb16 := r10.lt
  replace r18 : RowL W17 _ 68 [Value.int IntKind.i64 (a + 8), Value.int IntKind.u64 ↑x] := r18
  clear r10
  replace b1 := b1.grown b16 b1.size (by rintro k ⟨⟩; omega)
  replace q := q.grown b16 q.size (by rintro k ⟨⟩; omega)
  replace r4 := r4.gr b16 (by have := r4.lt; omega)
  have r10 := r18
  clear r18
  refine LL.nilS ?_
  refine CC.ret ?_
  refine EE.retC rfl rfl (lvNc (RowL.cells0 (by assumption)) (by rfl) (by rfl)) ?_
  exact ⟨rfl, q⟩
def movP (os : List Pt) : List Pt := os.map fun p => (p.1 + 8, p.2)
theorem moved_any (os : List Pt) (v : Value) (w : World) (hv : ReadsT pE 2 w v os) (hl : os.length ≤ 2000) (hr : ∀ p ∈ os, 0 ≤ p.1 ∧ p.1 ≤ 1000) : Calls Try.prog 77 #[v, .func (.func 78) #[] #[]] w fun e w' => ∃ v', e = .returned v' ∧ OwnsT pE 2 w' w.heap.size 68 v' (movP os) ∧ Below w.heap.size w w' := by
  have q := Below.refl w.heap.size w
  obtain ⟨N, hN⟩ : ∃ N, os.length = N := ⟨_, rfl⟩
  obtain ⟨a, c, rfl, hc⟩ := hv.form hN
  rw [hN] at hl
  have hF : ∀ W, Below w.heap.size w W → ReadsT pE 2 W (.slice a N c) os := fun W b => hv.up b
  clear hv
  refine X.fn Try.func77 rfl (n := 22) rfl rfl ?_
  refine CC.seq ?_
  refine CC.region ?_
  refine LL.val (R.assign rfl rfl) rfl rfl rfl ?_
  refine LL.nilS ?_
  refine CC.seq ?_
  refine CC.region ?_
  refine LL.val (R.assign rfl rfl) rfl rfl rfl ?_
  refine LL.nilS ?_
  refine CC.seq ?_
  refine CC.seq ?_
  refine CC.region ?_
  refine LL.val (R.move rfl rfl) rfl rfl rfl ?_
  refine LL.val (R.len rfl rfl rfl rfl) rfl rfl rfl ?_
  refine LL.val (R.move rfl rfl) rfl rfl rfl ?_
  refine LL.nilS ?_
  refine CC.block ?_
  refine CC.loop (α := Nat × Value) (fun s => [(1, .func (.func 78) #[] #[]), (5, s.2), (8, .slice a N c), (9, .int .i64 (N : Int)), (10, .int .i64 (s.1 : Int))]) (fun s W => s.1 ≤ N ∧ Below w.heap.size w W ∧ OwnsT pE 2 W w.heap.size 68 s.2 (movP (os.take s.1))) (fun s => N - s.1) (0, .slice none 0 0) ⟨rfl, rfl, rfl, rfl, rfl, trivial⟩ ⟨Nat.zero_le _, q, OwnsT.none _ _ _⟩ ?_
  clear q
  rintro ⟨i, v⟩ W ⟨hi, q, oa⟩
  simp only at hi oa
  show CC none Try.prog _ 22 [] (sl [(1, .func (.func 78) #[] #[]), (5, v), (8, .slice a N c), (9, .int .i64 (N : Int)), (10, .int .i64 (i : Int))]) _ W
  have htl : (movP (os.take i)).length = i := by
    unfold movP
    rw [List.length_map, List.length_take]
    omega
  obtain ⟨a3, c3, rfl, hc3⟩ := (oa.reads pEnc).form htl
  by_cases hlt : i < N
  case neg =>
    obtain rfl : i = N := by omega
    have e : os.take i = os := List.take_of_length_le (by omega)
    rw [e] at oa
    refine CC.seq ?_
    refine CC.region ?_
    refine LL.val (R.ltF rfl rfl rfl (by omega)) rfl rfl rfl ?_
    refine LL.nilS ?_
    refine CC.seq ?_
    refine CC.no rfl ?_
    refine CC.exit ?_
    refine EE.thenX ?_
    refine EE.thenX ?_
    refine EE.inX ?_
    refine EE.thenN ?_
    refine CC.seq ?_
    refine CC.region ?_
    refine LL.val (R.move rfl rfl) rfl rfl rfl ?_
    refine LL.val (R.assign rfl rfl) rfl rfl rfl ?_
    refine LL.nilS ?_
    refine CC.ret ?_
    refine EE.ret _ rfl rfl ?_
    exact ⟨_, rfl, oa, q⟩
  obtain ⟨⟨x, y⟩, hx⟩ : ∃ x, os[i]? = some x := ⟨_, List.getElem?_eq_getElem (by omega)⟩
  have hxr := hr _ (List.mem_of_getElem? hx)
  simp only at hxr
  have rd := hF _ q
  obtain ⟨b1, o1, rfl, _, _⟩ := rd.get pEnc hx
  have m1 : CellsN W ⟨b1, o1 + i * 2, none⟩ 2 [.int .i64 x, .int .u64 (y : Int)] := rd.elemN pEnc hx
  have e3 : movP (os.take (i + 1)) = movP (os.take i) ++ [(x + 8, y)] := by
    unfold movP
    rw [List.take_add_one, hx, List.map_append]
    rfl
  have lw := q.size
  have hkk := Kept.refl (fun j => j < W.heap.size ∧ True) W
  have oaF := fun X (b : Kept (fun j => j < W.heap.size ∧ True) W X) => oa.kept b fun j h1 h2 => ⟨h2, trivial⟩
  clear rd hr oa
  refine CC.seq ?_
  refine CC.region ?_
  refine LL.val (R.ltT rfl rfl rfl (by omega)) rfl rfl rfl ?_
  refine LL.nilS ?_
  refine CC.seq ?_
  refine CC.yes rfl ?_
  refine CC.skip ?_
  refine EE.thenN ?_
  refine CC.seq ?_
  refine CC.block ?_
  refine CC.seq ?_
  refine CC.region ?_
  refine LL.val (R.index rfl rfl rfl (I.ixS rfl (by omega))) rfl rfl rfl ?_
  refine LL.val (R.load rfl rfl (I.ldNc (by assumption) rfl rfl)) rfl rfl rfl ?_
  refine LL.alloc ([Value.int IntKind.i64 0, Value.int IntKind.u64 0]) rfl rfl rfl rfl rfl ?_
  intro Wb2 gb3 egb3 rb4 zb5 bb1
  replace q := q.trans (bb1.mono q.size)
  replace m1 := m1.up bb1
  replace hkk := hkk.trans (bkept bb1 (fun j h => by have := h.1; have := hkk.size; omega))
  have yb6 := hkk.size
  refine LL.storeN (vs := [Value.int IntKind.i64 x, Value.int IntKind.u64 ↑y]) rfl rfl rfl rfl rb4 (by exact Nat.le_of_ble_eq_true rfl) (ones_of rfl) rfl rfl ?_
  intro Wb8 rb9 bb7 zb10
  have hlbb7 := rb4.lt
  replace rb9 : RowL Wb8 _ 68 [Value.int IntKind.i64 x, Value.int IntKind.u64 ↑y] := rb9
  clear rb4
  replace bb1 := bb1.grown bb7 bb1.size (by rintro k ⟨⟩; omega)
  replace q := q.grown bb7 q.size (by rintro k ⟨⟩; omega)
  replace m1 := m1.gr bb7 (by have := m1.lt; omega)
  replace hkk := hkk.trans (grown_kept bb7 (fun j h => by have := h.1; have := hkk.size; omega) (fun j h e => by cases e; have h2 := h.1; have h3 := h.2; omega))
  have rb4 := rb9
  clear rb9
  refine LL.nilS ?_
  refine CC.region ?_
  refine LL.val (R.move rfl rfl) rfl rfl rfl ?_
  refine LL.val (R.move rfl rfl) rfl rfl rfl ?_
  refine LL.val (R.load rfl rfl (I.ldNc (vs := [Value.int IntKind.i64 x, Value.int IntKind.u64 ↑y]) (RowL.cells rb4 rfl) (by rfl) (by rfl))) rfl rfl rfl ?_
  refine LL.call (R.callV rfl rfl rfl rfl) rfl rfl rfl (down1_any _ _ _ (by omega)) ?_
  rintro e Wb12 ⟨rfl, bb11⟩
  refine ⟨_, rfl, ?_⟩
  have zbb11 := bb11.size
  replace bb1 := bb1.trans (bb11.mono bb1.size)
  replace q := q.trans (bb11.mono q.size)
  replace m1 := m1.up bb11
  replace hkk := hkk.trans (bkept bb11 (fun j h => by have := h.1; have := hkk.size; omega))
  have yb14 := hkk.size
  replace rb4 := rb4.up bb11
  have lb15 := rb4.lt
  refine LL.lit (e := 68) [Value.int IntKind.i64 (x + 8), Value.int IntKind.u64 ↑y] 1 rfl rfl (fun _ => by kernel_rfl) rfl rfl ?_
  intro Wb17 gb18 egb18 rb19 zb20 bb16
  replace bb11 := bb11.trans (bb16.mono bb11.size)
  replace bb1 := bb1.trans (bb16.mono bb1.size)
  replace q := q.trans (bb16.mono q.size)
  replace m1 := m1.up bb16
  replace hkk := hkk.trans (bkept bb16 (fun j h => by have := h.1; have := hkk.size; omega))
  have yb21 := hkk.size
  replace rb4 := rb4.up bb16
  (have oa := oaF _ hkk; clear oaF hkk; refine LL.appendT2 rfl rfl pEnc ElPut oa (us := [((x + 8 : Int), y)]) (RowL.readsT pEnc (ts := [((x + 8 : Int), y)]) (by assumption) 1 (Nat.le_refl _)) (by simp [maxLen]; omega) (by simp; omega) (by have := q.size; omega) rfl rfl ?_; intro v' Wz ob gra hva; replace q := q.grown gra q.size (fun g hg => by have := own_ge oa g hg; omega); clear oa hva gra; rw [← e3] at ob)
  refine LL.val (R.assign rfl rfl) rfl rfl rfl ?_
  refine LL.nil ?_
  refine EE.inN ?_
  refine EE.thenN ?_
  refine CC.region ?_
  refine LL.val (R.addNc rfl rfl rfl rfl (by omega)) rfl rfl rfl ?_
  refine LL.val (R.move rfl rfl) rfl rfl rfl ?_
  refine LL.nil ?_
  exact EE.round (i + 1, _) ⟨rfl, rfl, rfl, rfl, rfl, trivial⟩ ⟨by show i + 1 ≤ N; omega, q, ob⟩ (by show N - (i + 1) < N - i; omega)
theorem down_any (os : List Pt) (v : Value) (w : World) (hv : ReadsT pE 2 w v os) (hl : os.length ≤ 2000) (hr : ∀ p ∈ os, 0 ≤ p.1 ∧ p.1 ≤ 1000) : Calls Try.prog 53 #[v] w fun e w' => ∃ v', e = .returned v' ∧ OwnsT pE 2 w' w.heap.size 68 v' (movP os) ∧ Below w.heap.size w w' := by
  have q := Below.refl w.heap.size w
  obtain ⟨a, c, rfl, hc⟩ := hv.form rfl
  refine X.fn Try.func53 rfl (n := 5) rfl rfl ?_
  refine CC.seq ?_
  refine CC.region ?_
  refine LL.val (R.assign rfl rfl) rfl rfl rfl ?_
  refine LL.nilS ?_
  refine CC.seq ?_
  refine CC.region ?_
  refine LL.val (R.move rfl rfl) rfl rfl rfl ?_
  (refine LL.call (R.call rfl rfl rfl) rfl rfl rfl (moved_any os _ _ (by assumption) hl hr) ?_; rintro e W18 ⟨v7, rfl, o7, b15⟩; refine ⟨_, rfl, ?_⟩; obtain ⟨a7, c7, rfl, hc7⟩ := (o7.reads pEnc).form rfl)
  have zb15 := b15.size
  replace q := q.trans (b15.mono q.size)
  replace hv := hv.up b15
  refine LL.val (R.assign rfl rfl) rfl rfl rfl ?_
  refine LL.nilS ?_
  refine CC.ret ?_
  refine EE.ret _ rfl rfl ?_
  exact ⟨_, rfl, OwnsT.lower (by assumption) (by omega), q⟩
end Go.Proofs.Ytfplilpefhhpnaa
/- node: the closure of Put (written by gennd12.py). -/
namespace Go.Proofs.Ytfplilpefhhpnaa
set_option linter.unusedVariables false
set_option linter.unusedSimpArgs false
open Go.RowKit Go.Shelf
set_option maxRecDepth 100000
set_option maxHeartbeats 8000000
theorem putC_any (left n k p gp : Nat) (v : Value) (s : List Nat) (w : World) (hv : ReadsT uE 1 w v s) (hn : s.length = n) (h80 : n ≤ 1048576) (r : RowL w gp 46 [.int .u64 (k : Int), .int .u64 (p : Int)]) : Calls Try.prog 41 #[.int .u64 (left : Int), v, .pointer (some ⟨gp, 0, none⟩)] w fun e w' => ∃ vo, e = .returned (.tuple #[vo, .int .i64 ((putF left s k p).1 : Int)]) ∧ OwnsT pE 2 w' w.heap.size 68 vo (putF left s k p).2 ∧ Below w.heap.size w w' := by
  have q := Below.refl w.heap.size w
  obtain ⟨a, c, rfl, hc⟩ := hv.form hn
  refine X.fn Try.func41 rfl (n := 13) rfl rfl ?_
  refine CC.seq ?_
  refine CC.region ?_
  refine LL.val (R.assign rfl rfl) rfl rfl rfl ?_
  refine LL.val (R.assign rfl rfl) rfl rfl rfl ?_
  refine LL.nilS ?_
  refine CC.seq ?_
  refine CC.region ?_
  refine LL.val (R.move rfl rfl) rfl rfl rfl ?_
  refine LL.val (R.move rfl rfl) rfl rfl rfl ?_
  refine LL.val (R.load rfl rfl (I.ldNc (vs := [Value.int IntKind.u64 ↑k, Value.int IntKind.u64 ↑p]) (RowL.cells r rfl) (by rfl) (by rfl))) rfl rfl rfl ?_
  have l45 := r.lt
  (refine LL.call (R.call rfl rfl rfl) rfl rfl rfl (put_any left n k p _ s _ (by assumption) hn h80) ?_; rintro e W44 ⟨vo, rfl, oo, b41⟩; refine ⟨_, rfl, ?_⟩; obtain ⟨av, cv, rfl, hcv⟩ := (oo.reads pEnc).form rfl)
  have zb41 := b41.size
  replace r := r.up b41
  replace q := q.trans (b41.mono q.size)
  replace hv := hv.up b41
  refine LL.val (R.extract rfl rfl rfl) rfl rfl rfl ?_
  refine LL.val (R.extract rfl rfl rfl) rfl rfl rfl ?_
  refine LL.val (R.assign rfl rfl) rfl rfl rfl ?_
  refine LL.val (R.assign rfl rfl) rfl rfl rfl ?_
  refine LL.nilS ?_
  refine CC.ret ?_
  refine EE.ret _ rfl rfl ?_
  exact ⟨_, rfl, OwnsT.lower (by assumption) (by omega), q⟩
end Go.Proofs.Ytfplilpefhhpnaa
/- node: change (written by gennd13.py). -/
namespace Go.Proofs.Ytfplilpefhhpnaa
set_option linter.unusedVariables false
set_option linter.unusedSimpArgs false
open Go.RowKit Go.Shelf
set_option maxRecDepth 100000
set_option maxHeartbeats 8000000
end Go.Proofs.Ytfplilpefhhpnaa
/- node: change that succeeds (written by gennd14.py). -/
namespace Go.Proofs.Ytfplilpefhhpnaa
set_option linter.unusedVariables false
set_option linter.unusedSimpArgs false
open Go.RowKit Go.Shelf
set_option maxRecDepth 100000
set_option maxHeartbeats 8000000
theorem movP_len (os : List Pt) : (movP os).length = os.length := List.length_map _
theorem change_other (gv : Nat) (l s : Int) (lo le : Nat) (wy way : Nat) (pv : Value) (bk off c : Nat) (F : FuncId) (cap : Array Value) (hE : entB Try.prog F = true) (w : World) (hc : 64 ≤ c) (r : RowL w gv 70 (viewL l s lo le (wy : Int) pv (.slice (some ⟨bk, off, none⟩) 64 c))) (os : List Pt) (hl : os.length ≤ 2000) (hr : ∀ p ∈ os, 0 ≤ p.1 ∧ p.1 ≤ 1000) (hw : wy ≠ way) (hy : wy ≤ 2 ∧ way ≤ 2) (hF : ∀ W, Below w.heap.size w W → Calls Try.prog F (#[.int .u64 (le : Int), .slice (some ⟨bk, off + 8 * 1, none⟩) (64 - 8) (c - 8)] ++ cap) W fun e w' => ∃ vo, e = .returned (.tuple #[vo, .int .i64 0]) ∧ OwnsT pE 2 w' W.heap.size 68 vo os ∧ Below W.heap.size W w') : Calls Try.prog 40 #[.pointer (some ⟨gv, 0, none⟩), .int .i64 (way : Int), .func (.func F) #[] cap] w fun e w' => ∃ v', e = .returned (.tuple #[v', .int .i64 0]) ∧ OwnsT pE 2 w' w.heap.size 68 v' (((4 : Int), way) :: movP os) ∧ Below w.heap.size w w' := by
  have q := Below.refl w.heap.size w
  have hml := movP_len os
  have hcb : IntKind.u64.wrap (way : Int) = (way : Int) := by
    rw [IntKind.wrap_u64]
    omega
  refine X.fn Try.func40 rfl (n := 46) rfl rfl ?_
  refine CC.seq ?_
  refine CC.region ?_
  refine LL.val (R.assign rfl rfl) rfl rfl rfl ?_
  refine LL.val (R.assign rfl rfl) rfl rfl rfl ?_
  refine LL.nilS ?_
  refine CC.seq ?_
  refine CC.freeZ (fun W_ j => j < W_.heap.size ∧ (True)) (by kernel_rfl) (by kernel_rfl) (fun W34 b33 z35 => ?_)
  replace r := r.up b33
  replace q := q.trans (b33.mono q.size)
  have hok : Kept (fun j => j < W34.heap.size ∧ (True)) W34 W34 := Kept.refl _ _
  have fzr := fzRow (K := fun j => j < W34.heap.size ∧ (True)) r ⟨r.lt, (by first | trivial | omega)⟩
  refine AA.pure 0 rfl hok (by kernel_rfl) (fun w' b' => R.move rfl rfl) rfl rfl ?_
  refine AA.pure 1 rfl hok (by kernel_rfl) (fun w' b' => R.move rfl rfl) rfl rfl ?_
  refine AA.pure 2 rfl hok (by kernel_rfl) (fun w' b' => R.nil rfl rfl) rfl rfl ?_
  refine AA.pure 3 rfl hok (by kernel_rfl) (fun w' b' => R.field rfl rfl (I.fld rfl)) rfl rfl ?_
  refine AA.pure 4 rfl hok (by kernel_rfl) (fun w' b' => R.field rfl rfl (I.fld rfl)) rfl rfl ?_
  refine AA.pure 5 rfl hok (by kernel_rfl) (fun w' b' => R.load rfl rfl (I.ld1 rfl (RowL.cell (fzr w' b') rfl))) rfl rfl ?_
  refine AA.pure 6 rfl hok (by kernel_rfl) (fun w' b' => R.move rfl rfl) rfl rfl ?_
  refine AA.pure 7 rfl hok (by kernel_rfl) (fun w' b' => R.nil rfl rfl) rfl rfl ?_
  refine AA.pure 8 rfl hok (by kernel_rfl) (fun w' b' => R.field rfl rfl (I.fld rfl)) rfl rfl ?_
  refine AA.pure 9 rfl hok (by kernel_rfl) (fun w' b' => R.load rfl rfl (I.ld1 rfl (RowL.cell (fzr w' b') rfl))) rfl rfl ?_
  refine AA.one 10 (by kernel_rfl) ?_
  (refine SR.val rfl (R.slice rfl rfl rfl rfl rfl (I.slFrom (lo := 8) rfl (by omega) (by omega) (by omega))) rfl rfl hok ?_)
  refine AA.one 11 (by kernel_rfl) ?_
  have l40 := r.lt
  (refine SR.call rfl (R.callV rfl rfl rfl hE) rfl rfl (hF _ q) ?_; rintro e W39 ⟨vo, rfl, oo, b36⟩; refine ⟨_, rfl, ?_⟩; obtain ⟨av, cv, rfl, hcv⟩ := (oo.reads pEnc).form rfl; have ooF := fun X (b : Below W39.heap.size W39 X) => (oo.up b).reads pEnc; have qS := Below.refl W39.heap.size W39; clear oo)
  have zb36 := b36.size
  replace b33 := b33.trans (b36.mono b33.size)
  replace r := r.up b36
  replace q := q.trans (b36.mono q.size)
  replace hok := hok.trans (bkept b36 (fun j h => by have := h.1; have := hok.size; omega))
  have y44 := hok.size
  refine ⟨hok, ?_⟩
  refine AA.pure 12 rfl hok (by kernel_rfl) (fun w' b' => R.move rfl rfl) rfl rfl ?_
  refine AA.pure 13 rfl hok (by kernel_rfl) (fun w' b' => R.extract rfl rfl rfl) rfl rfl ?_
  refine AA.pure 14 rfl hok (by kernel_rfl) (fun w' b' => R.extract rfl rfl rfl) rfl rfl ?_
  refine AA.pure 15 rfl hok (by kernel_rfl) (fun w' b' => R.assign rfl rfl) rfl rfl ?_
  refine AA.pure 16 rfl hok (by kernel_rfl) (fun w' b' => R.assign rfl rfl) rfl rfl ?_
  refine AA.done rfl ?_
  clear fzr hok
  refine EE.thenN ?_
  refine CC.seq ?_
  refine CC.seq ?_
  refine CC.region ?_
  refine LL.val (R.move rfl rfl) rfl rfl rfl ?_
  refine LL.val (R.neF rfl rfl rfl (by omega)) rfl rfl rfl ?_
  refine LL.nilS ?_
  refine CC.no rfl ?_
  refine CC.skip ?_
  refine EE.thenN ?_
  refine CC.seq ?_
  refine CC.region ?_
  refine LL.val (R.assign rfl rfl) rfl rfl rfl ?_
  refine LL.nilS ?_
  refine CC.seq ?_
  refine CC.seq ?_
  refine CC.region ?_
  refine LL.val (R.move rfl rfl) rfl rfl rfl ?_
  refine LL.val (R.nil rfl rfl) rfl rfl rfl ?_
  refine LL.val (R.field rfl rfl (I.fld rfl)) rfl rfl rfl ?_
  refine LL.val (R.field rfl rfl (I.fld rfl)) rfl rfl rfl ?_
  refine LL.val (R.load rfl rfl (I.ld1 rfl (RowL.cell r rfl))) rfl rfl rfl ?_
  refine LL.val (R.move rfl rfl) rfl rfl rfl ?_
  refine LL.val (R.neT rfl rfl rfl (by omega)) rfl rfl rfl ?_
  refine LL.nilS ?_
  refine CC.yes rfl ?_
  refine CC.region ?_
  refine LL.val (R.move rfl rfl) rfl rfl rfl ?_
  refine LL.val (R.move rfl rfl) rfl rfl rfl ?_
  refine LL.val (R.convI rfl rfl rfl rfl (wrapU (by omega) (by omega))) rfl rfl rfl ?_
  refine LL.val (R.buildV rfl rfl (v := .agg #[Value.int IntKind.i64 4, Value.int IntKind.u64 ↑way]) (fun _ => by kernel_rfl)) rfl rfl rfl ?_
  have l285 := r.lt
  refine LL.lit (e := 68) [Value.int IntKind.i64 4, Value.int IntKind.u64 ↑way] 1 rfl rfl (fun _ => by kernel_rfl) rfl rfl ?_
  intro W287 g288 eg288 r289 z290 b286
  replace b36 := b36.trans (b286.mono b36.size)
  replace qS := qS.trans (b286.mono qS.size)
  replace b33 := b33.trans (b286.mono b33.size)
  replace r := r.up b286
  replace q := q.trans (b286.mono q.size)
  (refine LL.appendT2 rfl rfl pEnc ElPut (OwnsT.none _ w.heap.size _) (us := [((4 : Int), way)]) (RowL.readsT pEnc (ts := [((4 : Int), way)]) (by assumption) 1 (Nat.le_refl _)) (by simp [maxLen]) (by simp) (by have := q.size; omega) rfl rfl ?_; intro v' Wz ob gra hva; replace q := q.grown gra q.size (fun g hg => by simp [Value.ownBlock] at hg); replace qS := qS.grown gra qS.size (fun g hg => by simp [Value.ownBlock] at hg); clear hva gra; replace ob : OwnsT pE 2 Wz w.heap.size 68 v' [((4 : Int), way)] := ob; obtain ⟨a3, c3, rfl, hc3⟩ := (ob.reads pEnc).form rfl)
  refine LL.val (R.assign rfl rfl) rfl rfl rfl ?_
  refine LL.nilS ?_
  refine CC.seq ?_
  refine CC.region ?_
  refine LL.val (R.move rfl rfl) rfl rfl rfl ?_
  refine LL.val (R.move rfl rfl) rfl rfl rfl ?_
  (refine LL.call (R.call rfl rfl rfl) rfl rfl rfl (down_any os _ _ (ooF _ qS) hl hr) ?_; rintro e W361 ⟨v7, rfl, o7, b358⟩; refine ⟨_, rfl, ?_⟩; obtain ⟨a7, c7, rfl, hc7⟩ := (o7.reads pEnc).form rfl)
  have zb358 := b358.size
  replace q := q.trans (b358.mono q.size)
  replace qS := qS.trans (b358.mono qS.size)
  replace ob := ob.up b358
  (refine LL.appendT2 rfl rfl pEnc ElPut ob (us := movP os) (o7.reads pEnc) (by simp [maxLen]; omega) (by simp; omega) (by have := q.size; omega) rfl rfl ?_; intro v' Wz oc gra hva; replace q := q.grown gra q.size (fun g hg => by have := own_ge ob g hg; omega); clear o7 hva gra)
  refine LL.val (R.assign rfl rfl) rfl rfl rfl ?_
  refine LL.val (R.assign rfl rfl) rfl rfl rfl ?_
  refine LL.nilS ?_
  refine CC.ret ?_
  refine EE.ret _ rfl rfl ?_
  exact ⟨_, rfl, oc, q⟩
end Go.Proofs.Ytfplilpefhhpnaa
/- node: Put (written by gennd15.py). -/
namespace Go.Proofs.Ytfplilpefhhpnaa
set_option linter.unusedVariables false
set_option linter.unusedSimpArgs false
open Go.RowKit Go.Shelf
set_option maxRecDepth 100000
set_option maxHeartbeats 8000000
theorem nPut_other (v : Value) (ws : List Nat) (w : World) (hv : ReadsT uE 1 w v ws) (hn : ws.length = 64) (hb : ∀ x ∈ ws, x < 18446744073709551616) (hS : nodeS ws) (k p : Nat) (h1 : okP (gw ws 0 % 256) p) (h2 : okK (gw ws 0 % 256) (gw ws 2) k) (hw : gw ws 4 ≠ 1) (os : List Pt) (hp : putF (gw ws 3) (ws.drop 8) k p = (0, os)) (hl : os.length ≤ 2000) (hr : ∀ p ∈ os, 0 ≤ p.1 ∧ p.1 ≤ 1000) : Calls Try.prog 27 #[v, prV k p] w fun e w' => ∃ v', e = .returned (.tuple #[v', .int .i64 0]) ∧ OwnsT pE 2 w' w.heap.size 68 v' (((4 : Int), 1) :: movP os) ∧ Below w.heap.size w w' := by
  have q := Below.refl w.heap.size w
  obtain ⟨bk, off, c, rfl, hc⟩ := sl64 hv hn
  have hfp := fun W (b : Below w.heap.size w W) => forPair_yes 64 _ ws W (hv.up b) hn hb hS k p h1 h2
  have hs : ∀ W, Below w.heap.size w W → ReadsT uE 1 W (.slice (some ⟨bk, off + 8 * 1, none⟩) (64 - 8) (c - 8)) (ws.drop 8) := fun W b => by
    have := ((uE_reads hv).below b).from 8 (by decide)
    rw [show (ints .u64 ws).drop 8 = ints .u64 (ws.drop 8) by simp [ints]] at this
    exact reads_uE this
  have hd8 : (ws.drop 8).length = 56 := by rw [List.length_drop, hn]
  have hpc := fun gp W (b : Below w.heap.size w W) (r : RowL W gp 46 [.int .u64 (k : Int), .int .u64 (p : Int)]) => putC_any (gw ws 3) 56 k p gp _ (ws.drop 8) W (hs W b) hd8 (by decide) r
  rw [hp] at hpc
  have hw4 : gw ws 4 ≤ 2 := hS.1.2.d
  clear hv hb hS h1 h2 hs hp
  refine X.fn Try.func27 rfl (n := 21) rfl rfl ?_
  refine CC.seq ?_
  refine CC.region ?_
  refine LL.box [Value.int IntKind.u64 ↑k, Value.int IntKind.u64 ↑p] rfl rfl rfl rfl rfl ?_
  intro W16 g17 eg17 r18 z19 b15
  replace q := q.trans (b15.mono q.size)
  refine LL.val (R.assign rfl rfl) rfl rfl rfl ?_
  refine LL.val (R.assign rfl rfl) rfl rfl rfl ?_
  refine LL.nilS ?_
  refine CC.seq ?_
  refine CC.region ?_
  refine LL.val (R.move rfl rfl) rfl rfl rfl ?_
  refine LL.val (R.load rfl rfl (I.ldNc (vs := [Value.int IntKind.u64 ↑k, Value.int IntKind.u64 ↑p]) (RowL.cells r18 rfl) (by rfl) (by rfl))) rfl rfl rfl ?_
  have l88 := r18.lt
  (refine LL.call (R.call rfl rfl rfl) rfl rfl rfl (hfp _ q) ?_; rintro e W87 ⟨⟨vo, rfl, oo⟩, b84⟩; refine ⟨_, rfl, ?_⟩; obtain ⟨av, cv, rfl, hcv⟩ := (oo.reads prEnc).form rfl; clear oo)
  have zb84 := b84.size
  replace r18 := r18.up b84
  replace b15 := b15.trans (b84.mono b15.size)
  replace q := q.trans (b84.mono q.size)
  refine LL.val (R.move rfl rfl) rfl rfl rfl ?_
  refine LL.val (R.extract rfl rfl rfl) rfl rfl rfl ?_
  refine LL.val (R.extract rfl rfl rfl) rfl rfl rfl ?_
  have l156 := r18.lt
  refine LL.alloc ([Value.int IntKind.i64 0, Value.int IntKind.i64 0, Value.int IntKind.u64 0, Value.int IntKind.u64 0, Value.int IntKind.i64 0, Value.slice none 0 0, Value.slice none 0 0]) rfl rfl rfl rfl rfl ?_
  intro W158 g159 eg159 r160 z161 b157
  replace b84 := b84.trans (b157.mono b84.size)
  replace r18 := r18.up b157
  replace b15 := b15.trans (b157.mono b15.size)
  replace q := q.trans (b157.mono q.size)
  refine LL.storeN (vs := [Value.int IntKind.i64 ↑(gw ws 0 % 256), Value.int IntKind.i64 ↑(gw ws 1), Value.int IntKind.u64 ↑(gw ws 2), Value.int IntKind.u64 ↑(gw ws 3), Value.int IntKind.i64 ↑(gw ws 4), Value.slice av (readF (gw ws 3) (List.drop 8 ws)).length cv, Value.slice (some { block := bk, off := off }) 64 c]) rfl rfl rfl rfl r160 (by exact Nat.le_of_ble_eq_true rfl) (ones_of rfl) rfl rfl ?_
  intro W181 r182 b180 z183
  have hlb180 := r160.lt
  replace r182 : RowL W181 _ 70 [Value.int IntKind.i64 ↑(gw ws 0 % 256), Value.int IntKind.i64 ↑(gw ws 1), Value.int IntKind.u64 ↑(gw ws 2), Value.int IntKind.u64 ↑(gw ws 3), Value.int IntKind.i64 ↑(gw ws 4), Value.slice av (readF (gw ws 3) (List.drop 8 ws)).length cv, Value.slice (some { block := bk, off := off }) 64 c] := r182
  clear r160
  replace b157 := b157.grown b180 b157.size (by rintro k ⟨⟩; omega)
  replace b84 := b84.grown b180 b84.size (by rintro k ⟨⟩; omega)
  replace r18 := r18.gr b180 (by have := r18.lt; omega)
  replace b15 := b15.grown b180 b15.size (by rintro k ⟨⟩; omega)
  replace q := q.grown b180 q.size (by rintro k ⟨⟩; omega)
  have r160 := r182
  clear r182
  refine LL.val (R.assign rfl rfl) rfl rfl rfl ?_
  refine LL.nilS ?_
  refine CC.seq ?_
  refine CC.seq ?_
  refine CC.region ?_
  refine LL.val (R.move rfl rfl) rfl rfl rfl ?_
  refine LL.val (R.neF rfl rfl rfl (by omega)) rfl rfl rfl ?_
  refine LL.nilS ?_
  refine CC.no rfl ?_
  refine CC.skip ?_
  refine EE.thenN ?_
  refine CC.seq ?_
  refine CC.region ?_
  refine LL.val (R.func rfl rfl rfl) rfl rfl rfl ?_
  have l269 := r18.lt
  have l270 := r160.lt
  (refine LL.call (R.call rfl rfl rfl) rfl rfl rfl (change_other _ _ _ _ _ _ 1 _ bk off c _ _ rfl _ hc (by assumption) os hl hr hw ⟨hw4, by omega⟩ (fun W' b => hpc _ W' (q.trans (b.mono q.size)) (RowL.up (by assumption) b))) ?_; rintro e W268 ⟨v9, rfl, o9, b265⟩; refine ⟨_, rfl, ?_⟩; obtain ⟨a9, c9, rfl, hc9⟩ := (o9.reads pEnc).form rfl)
  have zb265 := b265.size
  replace b157 := b157.trans (b265.mono b157.size)
  replace b84 := b84.trans (b265.mono b84.size)
  replace r18 := r18.up b265
  replace b15 := b15.trans (b265.mono b15.size)
  replace q := q.trans (b265.mono q.size)
  replace r160 := r160.up b265
  refine LL.val (R.extract rfl rfl rfl) rfl rfl rfl ?_
  refine LL.val (R.extract rfl rfl rfl) rfl rfl rfl ?_
  refine LL.val (R.assign rfl rfl) rfl rfl rfl ?_
  refine LL.val (R.assign rfl rfl) rfl rfl rfl ?_
  refine LL.nilS ?_
  refine CC.ret ?_
  refine EE.ret _ rfl rfl ?_
  exact ⟨_, rfl, OwnsT.lower (by assumption) (by omega), q⟩
end Go.Proofs.Ytfplilpefhhpnaa
/- node: the words of a split, behind so many of its stores: the mathematics. -/
namespace Go.Proofs.Ytfplilpefhhpnaa
set_option linter.unusedVariables false
set_option linter.unusedSimpArgs false
open Go.RowKit Go.Shelf
set_option maxRecDepth 100000
set_option maxHeartbeats 8000000
theorem slP_cons (a b : Nat) (r : List Nat) : slP (a :: b :: r) = (a, b) :: slP r := by
  unfold slP
  rw [show (a :: b :: r).length / 2 = r.length / 2 + 1 by simp only [List.length_cons]; omega, List.range_succ_eq_map, List.map_cons, List.map_map]
  congr 1
theorem slP_flP (Z : List Nat) : ∀ P : List Pr, slP (flP P ++ Z) = P ++ slP Z
  | [] => rfl
  | p :: P => by
    show slP (p.1 :: p.2 :: (flP P ++ Z)) = _
    rw [slP_cons, slP_flP Z P]
    rfl
theorem slP_zero (n : Nat) : ∀ z ∈ slP (List.replicate n 0), z.2 = 0 := by
  intro z hz
  obtain ⟨j, hj, rfl⟩ := List.mem_map.1 hz
  show ptrN _ j = 0
  unfold ptrN
  rw [List.getElem?_replicate]
  split <;> rfl
theorem layW_drop {h : List Nat} {ps : List Pr} (hh : h.length = 8) : (layW h ps).drop 8 = flP ps ++ List.replicate (56 - 2 * ps.length) 0 := by
  unfold layW
  rw [List.append_assoc, List.drop_left' hh]
theorem lay_stl {le : Nat} {h : List Nat} {ps : List Pr} (hh : h.length = 8) (hp : ps.length ≤ 27) (hB : okB le ps) : Stl le ((layW h ps).drop 8) ps.length := by
  rw [layW_drop hh]
  refine stl_of (slP_flP _ ps) hB ?_ (slP_zero _)
  intro e
  have := congrArg List.length e
  rw [slP_len, List.length_replicate] at this
  simp at this
  omega
theorem stl_read {le n : Nat} {s : List Nat} (h : Stl le s n) (hr : ¬ noRow le s.length) : readF le s = preP s n := by
  rw [readF_row hr, h.pairP]
  rfl
theorem lay_read {le : Nat} {h : List Nat} {ps : List Pr} (hh : h.length = 8) (hp : ps.length ≤ 27) (hB : okB le ps) (hle : le ≠ 0) : readF le ((layW h ps).drop 8) = ps := by
  have hl : ((layW h ps).drop 8).length = 56 := by rw [List.length_drop, layW_len hh (by omega)]
  have hS := lay_stl (h := h) hh hp hB
  rw [stl_read hS (by rw [hl]; unfold noRow; omega)]
  have e := slP_split ((layW h ps).drop 8) (d := ps.length) (by rw [hl]; omega)
  rw [layW_drop hh] at e ⊢
  rw [slP_flP] at e
  exact (List.append_inj_left e (by rw [preP_len])).symm
end Go.Proofs.Ytfplilpefhhpnaa
/- ref01.Same over slices of words: whether two lists are the same. -/
namespace Go.Proofs.Ytfplilpefhhpnaa
set_option linter.unusedVariables false
set_option linter.unusedSimpArgs false
open Go.RowKit Go.Shelf
set_option maxRecDepth 100000
set_option maxHeartbeats 8000000
theorem usame_any (a1 a2 : Option Addr) (n1 n2 c1 c2 : Nat) (l1 l2 : List Nat) (w : World) (h1 : ReadsT uE 1 w (.slice a1 n1 c1) l1) (h2 : ReadsT uE 1 w (.slice a2 n2 c2) l2) (e1 : l1.length = n1) (e2 : l2.length = n2) (hN : n1 ≤ 1048576) (hN2 : n2 ≤ 1048576) :
    Calls Try.prog 17 #[.slice a1 n1 c1, .slice a2 n2 c2] w fun e w' => e = .returned (.bool (decide (l1 = l2))) ∧ Below w.heap.size w w' := by
  have q := Below.refl w.heap.size w
  have hF1 : ∀ W, Below w.heap.size w W → ReadsT uE 1 W (.slice a1 n1 c1) l1 := fun W hb => h1.up hb
  have hF2 : ∀ W, Below w.heap.size w W → ReadsT uE 1 W (.slice a2 n2 c2) l2 := fun W hb => h2.up hb
  clear h1 h2
  by_cases hn : n1 = n2
  case neg =>
    rw [decide_eq_false fun e => hn (by rw [← e1, ← e2, e])]
    refine X.fn Try.func17 rfl (n := 26) rfl rfl ?_
    refine CC.seq ?_
    refine CC.region ?_
    refine LL.val (R.assign rfl rfl) rfl rfl rfl ?_
    refine LL.nilS ?_
    refine CC.seq ?_
    refine CC.seq ?_
    refine CC.region ?_
    refine LL.val (R.move rfl rfl) rfl rfl rfl ?_
    refine LL.val (R.len rfl rfl rfl rfl) rfl rfl rfl ?_
    refine LL.val (R.move rfl rfl) rfl rfl rfl ?_
    refine LL.val (R.len rfl rfl rfl rfl) rfl rfl rfl ?_
    refine LL.val (R.neT rfl rfl rfl (by omega)) rfl rfl rfl ?_
    refine LL.nilS ?_
    refine CC.yes rfl ?_
    refine CC.seq ?_
    refine CC.region ?_
    refine LL.val (R.assign rfl rfl) rfl rfl rfl ?_
    refine LL.nilS ?_
    refine CC.ret ?_
    refine EE.thenR ?_
    refine EE.ret _ rfl rfl ?_
    exact ⟨rfl, q⟩
  subst hn
  refine X.fn Try.func17 rfl (n := 26) rfl rfl ?_
  refine CC.seq ?_
  refine CC.region ?_
  refine LL.val (R.assign rfl rfl) rfl rfl rfl ?_
  refine LL.nilS ?_
  refine CC.seq ?_
  refine CC.seq ?_
  refine CC.region ?_
  refine LL.val (R.move rfl rfl) rfl rfl rfl ?_
  refine LL.val (R.len rfl rfl rfl rfl) rfl rfl rfl ?_
  refine LL.val (R.move rfl rfl) rfl rfl rfl ?_
  refine LL.val (R.len rfl rfl rfl rfl) rfl rfl rfl ?_
  refine LL.val (R.neF rfl rfl rfl (by omega)) rfl rfl rfl ?_
  refine LL.nilS ?_
  refine CC.no rfl ?_
  refine CC.skip ?_
  refine EE.thenN ?_
  refine CC.seq ?_
  refine CC.seq ?_
  refine CC.region ?_
  refine LL.val (R.assign rfl rfl) rfl rfl rfl ?_
  refine LL.nilS ?_
  refine CC.block ?_
  refine CC.loop (α := Nat) (fun i => [(0, .slice a1 n1 c1), (1, .slice a2 n1 c2), (5, .int .i64 (i : Int))]) (fun i W => i ≤ n1 ∧ Below w.heap.size w W ∧ l1.take i = l2.take i) (fun i => n1 - i) 0 ⟨rfl, rfl, rfl, trivial⟩ ⟨by show 0 ≤ n1; omega, q, rfl⟩ ?_
  clear q
  rintro i W ⟨hi, q, ht⟩
  show CC none Try.prog _ 26 [] (sl [(0, .slice a1 n1 c1), (1, .slice a2 n1 c2), (5, .int .i64 (i : Int))]) _ W
  by_cases hlt : i < n1
  case neg =>
    obtain rfl : i = n1 := by omega
    rw [List.take_of_length_le (by omega), List.take_of_length_le (by omega)] at ht
    rw [decide_eq_true ht]
    refine CC.seq ?_
    refine CC.seq ?_
    refine CC.region ?_
    refine LL.val (R.move rfl rfl) rfl rfl rfl ?_
    refine LL.val (R.move rfl rfl) rfl rfl rfl ?_
    refine LL.val (R.len rfl rfl rfl rfl) rfl rfl rfl ?_
    refine LL.val (R.ltF rfl rfl rfl (by omega)) rfl rfl rfl ?_
    refine LL.nilS ?_
    refine CC.no rfl ?_
    refine CC.exit ?_
    refine EE.thenX ?_
    refine EE.thenX ?_
    refine EE.inX ?_
    refine EE.thenN ?_
    refine CC.seq ?_
    refine CC.region ?_
    refine LL.val (R.assign rfl rfl) rfl rfl rfl ?_
    refine LL.nilS ?_
    refine CC.ret ?_
    refine EE.ret _ rfl rfl ?_
    exact ⟨rfl, q⟩
  obtain ⟨x, hx⟩ : ∃ x, l1[i]? = some x := ⟨_, List.getElem?_eq_getElem (by omega)⟩
  obtain ⟨y, hy⟩ : ∃ y, l2[i]? = some y := ⟨_, List.getElem?_eq_getElem (by omega)⟩
  obtain ⟨b1, o1, rfl, k1, _⟩ := (hF1 W q).one uEnc hx
  obtain ⟨b2, o2, rfl, k2, _⟩ := (hF2 W q).one uEnc hy
  have m1 : ∀ W', Below w.heap.size w W' → W'.cell? ⟨b1, o1 + i, none⟩ = some (.int .u64 (x : Int)) := fun W' b => by
    obtain ⟨_, _, e, _, cs⟩ := (hF1 W' b).one uEnc hx
    cases e
    exact cs _ rfl
  have m2 : ∀ W', Below w.heap.size w W' → W'.cell? ⟨b2, o2 + i, none⟩ = some (.int .u64 (y : Int)) := fun W' b => by
    obtain ⟨_, _, e, _, cs⟩ := (hF2 W' b).one uEnc hy
    cases e
    exact cs _ rfl
  by_cases hxy : x = y
  · refine CC.seq ?_
    refine CC.seq ?_
    refine CC.region ?_
    refine LL.val (R.move rfl rfl) rfl rfl rfl ?_
    refine LL.val (R.move rfl rfl) rfl rfl rfl ?_
    refine LL.val (R.len rfl rfl rfl rfl) rfl rfl rfl ?_
    refine LL.val (R.ltT rfl rfl rfl (by omega)) rfl rfl rfl ?_
    refine LL.nilS ?_
    refine CC.yes rfl ?_
    refine CC.skip ?_
    refine EE.thenN ?_
    refine CC.seq ?_
    refine CC.block ?_
    refine CC.seq ?_
    refine CC.quietB (by kernel_rfl) (by kernel_rfl) (fun Wc2 bc1 zc3 => ?_)
    replace q := q.trans (bc1.mono q.size)
    refine SS.val (R.move rfl rfl) rfl rfl ?_
    refine SS.val (R.move rfl rfl) rfl rfl ?_
    refine SS.val (R.index rfl rfl rfl (I.ixS1 rfl (by omega))) rfl rfl ?_
    (refine SS.val (R.load rfl rfl (I.ld1 rfl (m1 _ q))) rfl rfl ?_)
    refine SS.val (R.move rfl rfl) rfl rfl ?_
    refine SS.val (R.move rfl rfl) rfl rfl ?_
    refine SS.val (R.index rfl rfl rfl (I.ixS1 rfl (by omega))) rfl rfl ?_
    (refine SS.val (R.load rfl rfl (I.ld1 rfl (m2 _ q))) rfl rfl ?_)
    refine SS.val (R.neF rfl rfl rfl (by omega)) rfl rfl ?_
    refine SS.nilQ ?_
    refine EE.thenN ?_
    refine CC.no rfl ?_
    refine CC.skip ?_
    refine EE.inN ?_
    refine EE.thenN ?_
    refine CC.region ?_
    refine LL.val (R.move rfl rfl) rfl rfl rfl ?_
    refine LL.val (R.addNc rfl rfl rfl rfl (by omega)) rfl rfl rfl ?_
    refine LL.val (R.assign rfl rfl) rfl rfl rfl ?_
    refine LL.nil ?_
    exact EE.round (i + 1) ⟨rfl, rfl, rfl, trivial⟩ ⟨by show i + 1 ≤ n1; omega, q, by rw [List.take_add_one, List.take_add_one, hx, hy, ht, hxy]⟩ (by show n1 - (i + 1) < n1 - i; omega)
  · rw [decide_eq_false (fun e => hxy (by rw [e, hy] at hx; exact (Option.some.inj hx).symm))]
    refine CC.seq ?_
    refine CC.seq ?_
    refine CC.region ?_
    refine LL.val (R.move rfl rfl) rfl rfl rfl ?_
    refine LL.val (R.move rfl rfl) rfl rfl rfl ?_
    refine LL.val (R.len rfl rfl rfl rfl) rfl rfl rfl ?_
    refine LL.val (R.ltT rfl rfl rfl (by omega)) rfl rfl rfl ?_
    refine LL.nilS ?_
    refine CC.yes rfl ?_
    refine CC.skip ?_
    refine EE.thenN ?_
    refine CC.seq ?_
    refine CC.block ?_
    refine CC.seq ?_
    refine CC.quietB (by kernel_rfl) (by kernel_rfl) (fun Wd2 bd1 zd3 => ?_)
    replace q := q.trans (bd1.mono q.size)
    refine SS.val (R.move rfl rfl) rfl rfl ?_
    refine SS.val (R.move rfl rfl) rfl rfl ?_
    refine SS.val (R.index rfl rfl rfl (I.ixS1 rfl (by omega))) rfl rfl ?_
    (refine SS.val (R.load rfl rfl (I.ld1 rfl (m1 _ q))) rfl rfl ?_)
    refine SS.val (R.move rfl rfl) rfl rfl ?_
    refine SS.val (R.move rfl rfl) rfl rfl ?_
    refine SS.val (R.index rfl rfl rfl (I.ixS1 rfl (by omega))) rfl rfl ?_
    (refine SS.val (R.load rfl rfl (I.ld1 rfl (m2 _ q))) rfl rfl ?_)
    refine SS.val (R.neT rfl rfl rfl (by omega)) rfl rfl ?_
    refine SS.nilQ ?_
    refine EE.thenN ?_
    refine CC.yes rfl ?_
    refine CC.seq ?_
    refine CC.region ?_
    refine LL.val (R.assign rfl rfl) rfl rfl rfl ?_
    refine LL.nilS ?_
    refine CC.ret ?_
    refine EE.inR ?_
    refine EE.thenR ?_
    refine EE.thenR ?_
    refine EE.inR ?_
    refine EE.thenR ?_
    refine EE.ret _ rfl rfl ?_
    exact ⟨rfl, q⟩
theorem usame_d (v1 v2 : Value) (l1 l2 : List Nat) (w : World) (h1 : ReadsT uE 1 w v1 l1) (h2 : ReadsT uE 1 w v2 l2) (hN : l1.length ≤ 1048576) (hN2 : l2.length ≤ 1048576) : Calls Try.prog 17 #[v1, v2] w fun e w' => e = .returned (.bool (decide (l1 = l2))) ∧ Below w.heap.size w w' := by
  obtain ⟨a1, c1, rfl, _⟩ := h1.form rfl
  obtain ⟨a2, c2, rfl, _⟩ := h2.form rfl
  exact usame_any a1 a2 _ _ c1 c2 l1 l2 w h1 h2 rfl rfl hN hN2
theorem usame_T (v1 v2 : Value) (l : List Nat) (w : World) (h1 : ReadsT uE 1 w v1 l) (h2 : ReadsT uE 1 w v2 l) (hN : l.length ≤ 1048576) : Calls Try.prog 17 #[v1, v2] w fun e w' => e = .returned (.bool true) ∧ Below w.heap.size w w' := by
  have := usame_d v1 v2 l l w h1 h2 hN hN
  rwa [decide_eq_true rfl] at this
end Go.Proofs.Ytfplilpefhhpnaa
/- node: the laws' own functions: num, leaf, lent, works (written by gennd17.py). -/
namespace Go.Proofs.Ytfplilpefhhpnaa
set_option linter.unusedVariables false
set_option linter.unusedSimpArgs false
open Go.RowKit Go.Shelf
set_option maxRecDepth 100000
set_option maxHeartbeats 8000000
theorem num11_any (z : Int) (w : World) : Calls Try.prog 12 #[.int .i64 z] w fun e w' => e = .returned (.int .i64 z) ∧ w = w' := by
  refine X.fn Try.func12 rfl (n := 4) rfl rfl ?_
  refine CC.seq ?_
  refine CC.region ?_
  refine LL.val (R.assign rfl rfl) rfl rfl rfl ?_
  refine LL.nilS ?_
  refine CC.seq ?_
  refine CC.region ?_
  refine LL.val (R.move rfl rfl) rfl rfl rfl ?_
  refine LL.val (R.assign rfl rfl) rfl rfl rfl ?_
  refine LL.nilS ?_
  refine CC.ret ?_
  refine EE.ret _ rfl rfl ?_
  exact ⟨rfl, rfl⟩
theorem leaf_any (w : World) : Calls Try.prog 26 #[] w fun e w' => ∃ g, e = .returned (nodeV 0 0 5 9223372036854775808 0 (.slice (some ⟨g, 0, none⟩) 2 2)) ∧ RowL w' g 46 [.int .u64 5, .int .u64 1, .int .u64 9, .int .u64 2] ∧ w.heap.size ≤ g ∧ Below w.heap.size w w' := by
  have q := Below.refl w.heap.size w
  refine X.fn Try.func26 rfl (n := 5) rfl rfl ?_
  refine CC.seq ?_
  refine CC.region ?_
  refine LL.alloc ([Value.int IntKind.i64 0, Value.int IntKind.i64 0, Value.int IntKind.u64 0, Value.int IntKind.u64 0, Value.int IntKind.i64 0, Value.slice none 0 0]) rfl rfl rfl rfl rfl ?_
  intro W2 g3 eg3 r4 z5 b1
  replace q := q.trans (b1.mono q.size)
  refine LL.nilS ?_
  refine CC.seq ?_
  refine CC.region ?_
  refine LL.val (R.buildV rfl rfl (v := .agg #[Value.int IntKind.u64 5, Value.int IntKind.u64 1]) (fun _ => by kernel_rfl)) rfl rfl rfl ?_
  refine LL.val (R.buildV rfl rfl (v := .agg #[Value.int IntKind.u64 9, Value.int IntKind.u64 2]) (fun _ => by kernel_rfl)) rfl rfl rfl ?_
  have l6 := r4.lt
  refine LL.lit (e := 46) [Value.int IntKind.u64 5, Value.int IntKind.u64 1, Value.int IntKind.u64 9, Value.int IntKind.u64 2] 2 rfl rfl (fun _ => by kernel_rfl) rfl rfl ?_
  intro W8 g9 eg9 r10 z11 b7
  replace r4 := r4.up b7
  replace b1 := b1.trans (b7.mono b1.size)
  replace q := q.trans (b7.mono q.size)
  refine LL.val (R.buildV rfl rfl (v := .agg #[Value.int IntKind.i64 0, Value.int IntKind.i64 0, Value.int IntKind.u64 5, Value.int IntKind.u64 9223372036854775808, Value.int IntKind.i64 0, Value.slice (some { block := g9, off := 0 }) 2 2]) (fun _ => by kernel_rfl)) rfl rfl rfl ?_
  refine LL.storeN (vs := [Value.int IntKind.i64 0, Value.int IntKind.i64 0, Value.int IntKind.u64 5, Value.int IntKind.u64 9223372036854775808, Value.int IntKind.i64 0, Value.slice (some { block := g9, off := 0 }) 2 2]) rfl rfl rfl rfl r4 (by exact Nat.le_of_ble_eq_true rfl) (ones_of rfl) rfl rfl ?_
  intro W13 r14 b12 z15
  have hlb12 := r4.lt
  replace r14 : RowL W13 _ 29 [Value.int IntKind.i64 0, Value.int IntKind.i64 0, Value.int IntKind.u64 5, Value.int IntKind.u64 9223372036854775808, Value.int IntKind.i64 0, Value.slice (some { block := g9, off := 0 }) 2 2] := r14
  clear r4
  replace r10 := r10.gr b12 (by have := r10.lt; omega)
  replace b1 := b1.grown b12 b1.size (by rintro k ⟨⟩; omega)
  replace q := q.grown b12 q.size (by rintro k ⟨⟩; omega)
  have r4 := r14
  clear r14
  refine LL.nilS ?_
  refine CC.ret ?_
  refine EE.retC rfl rfl (lvNc (RowL.cells0 (by assumption)) (by rfl) (by rfl)) ?_
  exact ⟨_, rfl, by assumption, by omega, q⟩
abbrev psC : List Pr := [(5, 1), (9, 2)]
abbrev wsC : List Nat := layW (layH (7522529147838689024 + 0) 0 5 9223372036854775808 0) psC
abbrev wsD : List Nat := layW (layH (7522529147838689024 + 0) 0 9 9223372036854775808 0) [(9, 2)]
theorem okB_dec {le : Nat} {B : List Pr} (h : (∀ x ∈ B, x.2 ≠ 0 ∧ x.2 ≠ le) ∧ B.Pairwise fun x y => x.1 < y.1 ∧ x.2 ≠ y.2) : okB le B := h
theorem okC : okB 9223372036854775808 psC := okB_dec (by decide +kernel)
theorem rdC : readF 9223372036854775808 (wsC.drop 8) = psC := lay_read rfl (by decide +kernel) okC (by decide +kernel)
theorem hdC (lo : Nat) (ps : List Pr) (h : ps.length ≤ 27) : nodeP (layW (layH (7522529147838689024 + 0) 0 lo 9223372036854775808 0) ps) := ⟨layW_len rfl (by omega), ⟨by show (7522529147838689024 + 0) / 256 * 256 = 7522529147838689024 ∧ (7522529147838689024 + 0) % 256 ≤ 12; decide, Nat.zero_le _, .inl ⟨by show (7522529147838689024 + 0) % 256 = 0; decide, rfl⟩, Nat.zero_le _, rfl, rfl, rfl⟩⟩
theorem stC : nodeS wsC := ⟨hdC 5 psC (by decide +kernel), setP_iff.2 ⟨2, lay_stl (h := layH (7522529147838689024 + 0) 0 5 9223372036854775808 0) (ps := psC) rfl (by decide +kernel) okC⟩, fun p hp => by
  have hp : p ∈ psC := by
    rw [← rdC]
    exact hp
  simp only [List.mem_cons, List.not_mem_nil, or_false] at hp
  rcases hp with rfl | rfl
  · exact ⟨.inl (by decide +kernel), .inr ⟨rfl, rfl⟩⟩
  · exact ⟨.inl (by decide +kernel), .inl (by decide +kernel)⟩⟩
theorem ltC : ∀ x ∈ wsC, x < 18446744073709551616 := by decide +kernel
theorem ltD : ∀ x ∈ wsD, x < 18446744073709551616 := by decide +kernel
abbrev osC : List Pt := [(7, 0), (5, 2), (4, 9), (3, 1), (2, 7), (3, 3)]
theorem putC_eq : putF 9223372036854775808 (wsC.drop 8) 7 3 = (0, osC) := by
  unfold putF
  rw [if_neg (show ¬ noRow 9223372036854775808 (wsC.drop 8).length by unfold noRow; decide +kernel), if_neg (by decide), if_neg (fun h => h stC.2.1), if_neg (fun ⟨j, hj, e⟩ => (by decide +kernel : ∀ j, j < overN (wsC.drop 8) → ptrN (wsC.drop 8) j ≠ 3) j hj e), if_neg (fun ⟨j, hj, e⟩ => (by decide +kernel : ∀ j, j < overN (wsC.drop 8) → keyN (wsC.drop 8) j ≠ 7) j hj e), if_neg (by decide)]
  rfl
end Go.Proofs.Ytfplilpefhhpnaa
/- node: works (written by gennd17.py). -/
namespace Go.Proofs.Ytfplilpefhhpnaa
set_option linter.unusedVariables false
set_option linter.unusedSimpArgs false
open Go.RowKit Go.Shelf
set_option maxRecDepth 100000
set_option maxHeartbeats 8000000
abbrev clC : List Value := [.int .u64 7522529147838689024, .int .u64 0, .int .u64 5, .int .u64 9223372036854775808, .int .u64 0, .int .u64 0, .int .u64 0, .int .u64 0, .int .u64 5, .int .u64 1, .int .u64 9, .int .u64 2, .int .u64 0, .int .u64 0, .int .u64 0, .int .u64 0, .int .u64 0, .int .u64 0, .int .u64 0, .int .u64 0, .int .u64 0, .int .u64 0, .int .u64 0, .int .u64 0, .int .u64 0, .int .u64 0, .int .u64 0, .int .u64 0, .int .u64 0, .int .u64 0, .int .u64 0, .int .u64 0, .int .u64 0, .int .u64 0, .int .u64 0, .int .u64 0, .int .u64 0, .int .u64 0, .int .u64 0, .int .u64 0, .int .u64 0, .int .u64 0, .int .u64 0, .int .u64 0, .int .u64 0, .int .u64 0, .int .u64 0, .int .u64 0, .int .u64 0, .int .u64 0, .int .u64 0, .int .u64 0, .int .u64 0, .int .u64 0, .int .u64 0, .int .u64 0, .int .u64 0, .int .u64 0, .int .u64 0, .int .u64 0, .int .u64 0, .int .u64 0, .int .u64 0, .int .u64 0]
theorem clC_eq : ints .u64 wsC = clC := rfl
theorem r8_14 {w : World} {g : Nat} (r : RowL w g 25 clC) : ReadsT uE 1 w (.slice (some ⟨g, 0 + 8 * 1, none⟩) 6 56) [5, 1, 9, 2, 0, 0] := by
  have h := row_uE (ws := wsC) (n := 64) (by rw [clC_eq]; exact r) rfl
  have h2 := (uE_reads h).from 8 (by decide)
  rw [show (ints .u64 wsC).drop 8 = ints .u64 (wsC.drop 8) from rfl] at h2
  have h3 := (reads_uE h2).take uEnc 6 (by decide) 56 (by decide)
  exact h3
theorem nOfD (g : Nat) (W : World) (r : RowL W g 25 (ints .u64 wsD)) : Calls Try.prog 9 #[.slice (some ⟨g, 0, none⟩) 64 64] W fun e w' => (∃ vo, e = .returned (.tuple #[nodeV 0 0 9 9223372036854775808 0 vo, .int .i64 0]) ∧ OwnsT prE 2 w' W.heap.size 46 vo (readF (gw wsD 3) (wsD.drop 8))) ∧ Below W.heap.size W w' := nOf_yes 64 _ wsD W (row_uE r rfl) rfl ltD (hdC 9 [(9, 2)] (by decide))
theorem works11_any (w : World) : Calls Try.prog 7 #[] w fun e w' => e = .returned (.bool true) ∧ Below w.heap.size w w' := by
  have q := Below.refl w.heap.size w
  refine X.fn Try.func7 rfl (n := 105) rfl rfl ?_
  refine CC.seq ?_
  refine CC.region ?_
  refine LL.val (R.assign rfl rfl) rfl rfl rfl ?_
  refine LL.nilS ?_
  refine CC.seq ?_
  refine CC.region ?_
  (refine LL.call (R.call rfl rfl rfl) rfl rfl rfl (leaf_any _) ?_; rintro e W53 ⟨gp, rfl, rp, hgp, b50⟩; refine ⟨_, rfl, ?_⟩)
  have zb50 := b50.size
  replace q := q.trans (b50.mono q.size)
  have l69 := rp.lt
  (refine LL.call (R.call rfl rfl rfl) rfl rfl rfl (make_yes 0 0 0 5 9223372036854775808 0 0 psC _ _ (RowL.readsT prEnc (ts := psC) (by assumption) 2 (by decide)) (by decide) (by decide) (by rw [IntKind.wrap_u64]; rfl) (by rw [IntKind.wrap_u64]; rfl) (by decide) (by decide) (by decide) stC (by rw [rdC])) ?_; rintro e W68 ⟨⟨gw, rfl, rw0, hgw⟩, b65⟩; refine ⟨_, rfl, ?_⟩; replace rw0 : RowL W68 gw 25 clC := rw0)
  have zb65 := b65.size
  replace rp := rp.up b65
  replace b50 := b50.trans (b65.mono b50.size)
  replace q := q.trans (b65.mono q.size)
  refine LL.val (R.move rfl rfl) rfl rfl rfl ?_
  refine LL.val (R.extract rfl rfl rfl) rfl rfl rfl ?_
  refine LL.val (R.extract rfl rfl rfl) rfl rfl rfl ?_
  refine LL.val (R.assign rfl rfl) rfl rfl rfl ?_
  refine LL.val (R.assign rfl rfl) rfl rfl rfl ?_
  refine LL.nilS ?_
  refine CC.seq ?_
  refine CC.seq ?_
  refine CC.region ?_
  refine LL.val (R.move rfl rfl) rfl rfl rfl ?_
  refine LL.call (R.call rfl rfl rfl) rfl rfl rfl (num11_any _ _) ?_
  rintro e W' ⟨rfl, rfl⟩
  refine ⟨_, rfl, ?_⟩
  refine LL.val (R.neF rfl rfl rfl (by omega)) rfl rfl rfl ?_
  refine LL.val (R.move rfl rfl) rfl rfl rfl ?_
  refine LL.val (R.move rfl rfl) rfl rfl rfl ?_
  refine LL.val (R.len rfl rfl rfl rfl) rfl rfl rfl ?_
  refine LL.val (R.neF rfl rfl rfl (by omega)) rfl rfl rfl ?_
  refine LL.val (R.pick rfl rfl rfl) rfl rfl rfl ?_
  refine LL.val (R.move rfl rfl) rfl rfl rfl ?_
  refine LL.val (R.move rfl rfl) rfl rfl rfl ?_
  refine LL.val (R.index rfl rfl rfl (I.ixS1c rfl rfl (by omega))) rfl rfl rfl ?_
  refine LL.val (R.load rfl rfl (I.ld1 rfl (RowL.cell rw0 rfl))) rfl rfl rfl ?_
  refine LL.val (R.neF rfl rfl rfl (by omega)) rfl rfl rfl ?_
  refine LL.val (R.pick rfl rfl rfl) rfl rfl rfl ?_
  refine LL.val (R.move rfl rfl) rfl rfl rfl ?_
  refine LL.val (R.move rfl rfl) rfl rfl rfl ?_
  refine LL.val (R.index rfl rfl rfl (I.ixS1c rfl rfl (by omega))) rfl rfl rfl ?_
  refine LL.val (R.load rfl rfl (I.ld1 rfl (RowL.cell rw0 rfl))) rfl rfl rfl ?_
  refine LL.val (R.neF rfl rfl rfl (by omega)) rfl rfl rfl ?_
  refine LL.val (R.pick rfl rfl rfl) rfl rfl rfl ?_
  refine LL.val (R.move rfl rfl) rfl rfl rfl ?_
  refine LL.val (R.move rfl rfl) rfl rfl rfl ?_
  refine LL.val (R.index rfl rfl rfl (I.ixS1c rfl rfl (by omega))) rfl rfl rfl ?_
  refine LL.val (R.load rfl rfl (I.ld1 rfl (RowL.cell rw0 rfl))) rfl rfl rfl ?_
  refine LL.val (R.neF rfl rfl rfl (by omega)) rfl rfl rfl ?_
  refine LL.val (R.pick rfl rfl rfl) rfl rfl rfl ?_
  refine LL.val (R.move rfl rfl) rfl rfl rfl ?_
  refine LL.val (R.move rfl rfl) rfl rfl rfl ?_
  refine LL.val (R.slice rfl rfl rfl rfl rfl (I.slSc rfl rfl rfl (by omega) (by omega) (by omega))) rfl rfl rfl ?_
  have l2278 := rw0.lt
  have l2279 := rp.lt
  refine LL.lit (e := 25) [Value.int IntKind.u64 5, Value.int IntKind.u64 1, Value.int IntKind.u64 9, Value.int IntKind.u64 2, Value.int IntKind.u64 0, Value.int IntKind.u64 0] 6 rfl rfl (fun _ => by kernel_rfl) rfl rfl ?_
  intro W2281 g2282 eg2282 r2283 z2284 b2280
  replace b65 := b65.trans (b2280.mono b65.size)
  replace rw0 := rw0.up b2280
  replace rp := rp.up b2280
  replace b50 := b50.trans (b2280.mono b50.size)
  replace q := q.trans (b2280.mono q.size)
  have l2309 := r2283.lt
  have l2310 := rw0.lt
  have l2311 := rp.lt
  (refine LL.call (R.call rfl rfl rfl) rfl rfl rfl (usame_T _ _ [5, 1, 9, 2, 0, 0] _ (r8_14 (by assumption)) (RowL.readsT uEnc (ts := [5, 1, 9, 2, 0, 0]) (by assumption) 6 (by decide)) (by decide)) ?_; rintro e W2308 ⟨rfl, b2305⟩; refine ⟨_, rfl, ?_⟩)
  have zb2305 := b2305.size
  replace r2283 := r2283.up b2305
  replace b2280 := b2280.trans (b2305.mono b2280.size)
  replace b65 := b65.trans (b2305.mono b65.size)
  replace rw0 := rw0.up b2305
  replace rp := rp.up b2305
  replace b50 := b50.trans (b2305.mono b50.size)
  replace q := q.trans (b2305.mono q.size)
  refine LL.val (R.not rfl rfl) rfl rfl rfl ?_
  refine LL.val (R.pick rfl rfl rfl) rfl rfl rfl ?_
  refine LL.nilS ?_
  refine CC.no rfl ?_
  refine CC.skip ?_
  refine EE.thenN ?_
  refine CC.seq ?_
  refine CC.region ?_
  refine LL.val (R.move rfl rfl) rfl rfl rfl ?_
  refine LL.val (R.buildV rfl rfl (v := .agg #[Value.int IntKind.u64 7, Value.int IntKind.u64 3]) (fun _ => by kernel_rfl)) rfl rfl rfl ?_
  have l2629 := r2283.lt
  have l2630 := rw0.lt
  have l2631 := rp.lt
  (refine LL.call (R.call rfl rfl rfl) rfl rfl rfl (nPut_other _ wsC _ (row_uE (by rw [clC_eq]; assumption) rfl) rfl ltC stC 7 3 (.inl (by decide)) (.inl (by decide)) (by decide) osC putC_eq (by decide) (by decide)) ?_; rintro e W2628 ⟨va, rfl, oa, b2625⟩; refine ⟨_, rfl, ?_⟩; obtain ⟨av, cv, rfl, hcv⟩ := (oa.reads pEnc).form (n := 7) rfl; obtain ⟨bv, ov, rfl, _, _⟩ := (oa.reads pEnc).get pEnc (i := 0) rfl; obtain ⟨X1, hzX1, haF, q1⟩ := exposeT (oa.reads pEnc); have zX1 := q1.size; clear oa)
  have zb2625 := b2625.size
  replace b2305 := b2305.trans (b2625.mono b2305.size)
  replace r2283 := r2283.up b2625
  replace b2280 := b2280.trans (b2625.mono b2280.size)
  replace b65 := b65.trans (b2625.mono b65.size)
  replace rw0 := rw0.up b2625
  replace rp := rp.up b2625
  replace b50 := b50.trans (b2625.mono b50.size)
  replace q := q.trans (b2625.mono q.size)
  refine LL.val (R.move rfl rfl) rfl rfl rfl ?_
  refine LL.val (R.extract rfl rfl rfl) rfl rfl rfl ?_
  refine LL.val (R.extract rfl rfl rfl) rfl rfl rfl ?_
  refine LL.val (R.assign rfl rfl) rfl rfl rfl ?_
  refine LL.val (R.assign rfl rfl) rfl rfl rfl ?_
  refine LL.nilS ?_
  refine CC.seq ?_
  refine CC.region ?_
  refine LL.val (R.move rfl rfl) rfl rfl rfl ?_
  have l3099 := r2283.lt
  have l3100 := rw0.lt
  have l3101 := rp.lt
  (refine LL.call (R.call rfl rfl rfl) rfl rfl rfl (split_yes 64 _ wsC _ (row_uE (by rw [clC_eq]; assumption) rfl) rfl ltC stC 40 2 1 9 2 (by decide) psC rdC rfl (by decide) rfl rfl) ?_; rintro e W3098 ⟨gv, vm, rfl, rv, om, hgv, b3095⟩; refine ⟨_, rfl, ?_⟩; obtain ⟨am, cm, rfl, hcm⟩ := (om.reads pEnc).form (n := 2) rfl; obtain ⟨X2, hzX2, hmF, q2⟩ := exposeT (om.reads pEnc); have zX2 := q2.size; clear om)
  have zb3095 := b3095.size
  replace b2625 := b2625.trans (b3095.mono b2625.size)
  replace q1 := q1.trans (b3095.mono q1.size)
  replace b2305 := b2305.trans (b3095.mono b2305.size)
  replace r2283 := r2283.up b3095
  replace b2280 := b2280.trans (b3095.mono b2280.size)
  replace b65 := b65.trans (b3095.mono b65.size)
  replace rw0 := rw0.up b3095
  replace rp := rp.up b3095
  replace b50 := b50.trans (b3095.mono b50.size)
  replace q := q.trans (b3095.mono q.size)
  refine LL.val (R.move rfl rfl) rfl rfl rfl ?_
  refine LL.val (R.extract rfl rfl rfl) rfl rfl rfl ?_
  refine LL.val (R.extract rfl rfl rfl) rfl rfl rfl ?_
  refine LL.val (R.extract rfl rfl rfl) rfl rfl rfl ?_
  refine LL.val (R.assign rfl rfl) rfl rfl rfl ?_
  refine LL.val (R.assign rfl rfl) rfl rfl rfl ?_
  refine LL.val (R.assign rfl rfl) rfl rfl rfl ?_
  refine LL.nilS ?_
  refine CC.seq ?_
  refine CC.region ?_
  refine LL.val (R.move rfl rfl) rfl rfl rfl ?_
  have l3780 := rv.lt
  have l3781 := r2283.lt
  have l3782 := rw0.lt
  have l3783 := rp.lt
  (refine LL.call (R.call rfl rfl rfl) rfl rfl rfl (nOfD _ _ rv) ?_; rintro e W3779 ⟨⟨vo, rfl, oo⟩, b3776⟩; refine ⟨_, rfl, ?_⟩; obtain ⟨ao, co, rfl, hco⟩ := (oo.reads prEnc).form rfl; clear oo)
  have zb3776 := b3776.size
  replace rv := rv.up b3776
  replace b3095 := b3095.trans (b3776.mono b3095.size)
  replace q2 := q2.trans (b3776.mono q2.size)
  replace b2625 := b2625.trans (b3776.mono b2625.size)
  replace q1 := q1.trans (b3776.mono q1.size)
  replace b2305 := b2305.trans (b3776.mono b2305.size)
  replace r2283 := r2283.up b3776
  replace b2280 := b2280.trans (b3776.mono b2280.size)
  replace b65 := b65.trans (b3776.mono b65.size)
  replace rw0 := rw0.up b3776
  replace rp := rp.up b3776
  replace b50 := b50.trans (b3776.mono b50.size)
  replace q := q.trans (b3776.mono q.size)
  refine LL.val (R.move rfl rfl) rfl rfl rfl ?_
  refine LL.val (R.extract rfl rfl rfl) rfl rfl rfl ?_
  refine LL.val (R.extract rfl rfl rfl) rfl rfl rfl ?_
  have l4095 := rv.lt
  have l4096 := r2283.lt
  have l4097 := rw0.lt
  have l4098 := rp.lt
  refine LL.alloc ([Value.int IntKind.i64 0, Value.int IntKind.i64 0, Value.int IntKind.u64 0, Value.int IntKind.u64 0, Value.int IntKind.i64 0, Value.slice none 0 0]) rfl rfl rfl rfl rfl ?_
  intro W4100 g4101 eg4101 r4102 z4103 b4099
  replace b3776 := b3776.trans (b4099.mono b3776.size)
  replace rv := rv.up b4099
  replace b3095 := b3095.trans (b4099.mono b3095.size)
  replace q2 := q2.trans (b4099.mono q2.size)
  replace b2625 := b2625.trans (b4099.mono b2625.size)
  replace q1 := q1.trans (b4099.mono q1.size)
  replace b2305 := b2305.trans (b4099.mono b2305.size)
  replace r2283 := r2283.up b4099
  replace b2280 := b2280.trans (b4099.mono b2280.size)
  replace b65 := b65.trans (b4099.mono b65.size)
  replace rw0 := rw0.up b4099
  replace rp := rp.up b4099
  replace b50 := b50.trans (b4099.mono b50.size)
  replace q := q.trans (b4099.mono q.size)
  refine LL.storeN (vs := [Value.int IntKind.i64 0, Value.int IntKind.i64 0, Value.int IntKind.u64 ↑9, Value.int IntKind.u64 ↑9223372036854775808, Value.int IntKind.i64 0, Value.slice ao (readF (Ytfplilpefhhpnaa.gw wsD 3) (List.drop 8 wsD)).length co]) rfl rfl rfl rfl r4102 (by exact Nat.le_of_ble_eq_true rfl) (ones_of rfl) rfl rfl ?_
  intro W4189 r4190 b4188 z4191
  have hlb4188 := r4102.lt
  replace r4190 : RowL W4189 _ 29 [Value.int IntKind.i64 0, Value.int IntKind.i64 0, Value.int IntKind.u64 ↑9, Value.int IntKind.u64 ↑9223372036854775808, Value.int IntKind.i64 0, Value.slice ao (readF (Ytfplilpefhhpnaa.gw wsD 3) (List.drop 8 wsD)).length co] := r4190
  clear r4102
  replace b4099 := b4099.grown b4188 b4099.size (by rintro k ⟨⟩; omega)
  replace b3776 := b3776.grown b4188 b3776.size (by rintro k ⟨⟩; omega)
  replace rv := rv.gr b4188 (by have := rv.lt; omega)
  replace b3095 := b3095.grown b4188 b3095.size (by rintro k ⟨⟩; omega)
  replace q2 := q2.grown b4188 q2.size (by rintro k ⟨⟩; omega)
  replace b2625 := b2625.grown b4188 b2625.size (by rintro k ⟨⟩; omega)
  replace q1 := q1.grown b4188 q1.size (by rintro k ⟨⟩; omega)
  replace b2305 := b2305.grown b4188 b2305.size (by rintro k ⟨⟩; omega)
  replace r2283 := r2283.gr b4188 (by have := r2283.lt; omega)
  replace b2280 := b2280.grown b4188 b2280.size (by rintro k ⟨⟩; omega)
  replace b65 := b65.grown b4188 b65.size (by rintro k ⟨⟩; omega)
  replace rw0 := rw0.gr b4188 (by have := rw0.lt; omega)
  replace rp := rp.gr b4188 (by have := rp.lt; omega)
  replace b50 := b50.grown b4188 b50.size (by rintro k ⟨⟩; omega)
  replace q := q.grown b4188 q.size (by rintro k ⟨⟩; omega)
  have r4102 := r4190
  clear r4190
  refine LL.val (R.assign rfl rfl) rfl rfl rfl ?_
  refine LL.nilS ?_
  refine CC.seq ?_
  refine CC.region ?_
  refine LL.val (R.move rfl rfl) rfl rfl rfl ?_
  refine LL.call (R.call rfl rfl rfl) rfl rfl rfl (num11_any _ _) ?_
  rintro e W' ⟨rfl, rfl⟩
  refine ⟨_, rfl, ?_⟩
  refine LL.val (R.move rfl rfl) rfl rfl rfl ?_
  refine LL.call (R.call rfl rfl rfl) rfl rfl rfl (num11_any _ _) ?_
  rintro e W' ⟨rfl, rfl⟩
  refine ⟨_, rfl, ?_⟩
  refine LL.val (R.addIz (z := 0) rfl rfl rfl (by decide) (by decide)) rfl rfl rfl ?_
  refine LL.val (R.move rfl rfl) rfl rfl rfl ?_
  refine LL.call (R.call rfl rfl rfl) rfl rfl rfl (num11_any _ _) ?_
  rintro e W' ⟨rfl, rfl⟩
  refine ⟨_, rfl, ?_⟩
  refine LL.val (R.addIz (z := 0) rfl rfl rfl (by decide) (by decide)) rfl rfl rfl ?_
  refine LL.val (R.eqT rfl rfl rfl (by omega)) rfl rfl rfl ?_
  refine LL.val (R.move rfl rfl) rfl rfl rfl ?_
  refine LL.val (R.move rfl rfl) rfl rfl rfl ?_
  refine LL.val (R.len rfl rfl rfl rfl) rfl rfl rfl ?_
  refine LL.val (R.eqT rfl rfl rfl (by omega)) rfl rfl rfl ?_
  refine LL.val (R.pick rfl rfl rfl) rfl rfl rfl ?_
  refine LL.val (R.move rfl rfl) rfl rfl rfl ?_
  refine LL.val (R.move rfl rfl) rfl rfl rfl ?_
  refine LL.val (R.index rfl rfl rfl (I.ixSc rfl rfl (by omega))) rfl rfl rfl ?_
  (refine LL.val (R.load rfl rfl (I.ldNc ((haF _ q1).elemN pEnc (i := 0) rfl).at' rfl rfl)) rfl rfl rfl ?_)
  refine LL.val (R.buildV rfl rfl (v := .agg #[Value.int IntKind.i64 4, Value.int IntKind.u64 1]) (fun _ => by kernel_rfl)) rfl rfl rfl ?_
  refine LL.val (R.eqST (p := (4 : Int) = 4 ∧ (↑1 : Int) = 1) (bs := [decide ((4 : Int) = 4), decide ((↑1 : Int) = 1)]) rfl rfl rfl rfl (by kernel_rfl) (by kernel_rfl) (by simp) (by first | assumption | omega | exact ⟨rfl, rfl⟩ | exact fun h => h ⟨rfl, rfl⟩)) rfl rfl rfl ?_
  refine LL.val (R.pick rfl rfl rfl) rfl rfl rfl ?_
  refine LL.val (R.move rfl rfl) rfl rfl rfl ?_
  refine LL.val (R.move rfl rfl) rfl rfl rfl ?_
  refine LL.val (R.index rfl rfl rfl (I.ixSc rfl rfl (by omega))) rfl rfl rfl ?_
  (refine LL.val (R.load rfl rfl (I.ldNc ((haF _ q1).elemN pEnc (i := 1) rfl).at' rfl rfl)) rfl rfl rfl ?_)
  refine LL.val (R.buildV rfl rfl (v := .agg #[Value.int IntKind.i64 15, Value.int IntKind.u64 0]) (fun _ => by kernel_rfl)) rfl rfl rfl ?_
  refine LL.val (R.eqST (p := (7 + 8 : Int) = 15 ∧ (↑0 : Int) = 0) (bs := [decide ((7 + 8 : Int) = 15), decide ((↑0 : Int) = 0)]) rfl rfl rfl rfl (by kernel_rfl) (by kernel_rfl) (by simp) (by first | assumption | omega | exact ⟨rfl, rfl⟩ | exact fun h => h ⟨rfl, rfl⟩)) rfl rfl rfl ?_
  refine LL.val (R.pick rfl rfl rfl) rfl rfl rfl ?_
  refine LL.val (R.move rfl rfl) rfl rfl rfl ?_
  refine LL.val (R.field rfl rfl (I.fld rfl)) rfl rfl rfl ?_
  refine LL.val (R.load rfl rfl (I.ld1 rfl (RowL.cell r4102 rfl))) rfl rfl rfl ?_
  refine LL.val (R.eqT rfl rfl rfl (by omega)) rfl rfl rfl ?_
  refine LL.val (R.pick rfl rfl rfl) rfl rfl rfl ?_
  refine LL.val (R.move rfl rfl) rfl rfl rfl ?_
  refine LL.val (R.move rfl rfl) rfl rfl rfl ?_
  refine LL.val (R.buildV rfl rfl (v := .agg #[Value.int IntKind.i64 1, Value.int IntKind.u64 40]) (fun _ => by kernel_rfl)) rfl rfl rfl ?_
  refine LL.val (R.buildV rfl rfl (v := .agg #[Value.int IntKind.i64 11, Value.int IntKind.u64 0]) (fun _ => by kernel_rfl)) rfl rfl rfl ?_
  have l7444 := rv.lt
  have l7445 := r2283.lt
  have l7446 := rw0.lt
  have l7447 := rp.lt
  have l7448 := r4102.lt
  refine LL.lit (e := 68) [Value.int IntKind.i64 1, Value.int IntKind.u64 40, Value.int IntKind.i64 11, Value.int IntKind.u64 0] 2 rfl rfl (fun _ => by kernel_rfl) rfl rfl ?_
  intro W7450 g7451 eg7451 r7452 z7453 b7449
  replace b4099 := b4099.trans (b7449.mono b4099.size)
  replace b3776 := b3776.trans (b7449.mono b3776.size)
  replace rv := rv.up b7449
  replace b3095 := b3095.trans (b7449.mono b3095.size)
  replace q2 := q2.trans (b7449.mono q2.size)
  replace b2625 := b2625.trans (b7449.mono b2625.size)
  replace q1 := q1.trans (b7449.mono q1.size)
  replace b2305 := b2305.trans (b7449.mono b2305.size)
  replace r2283 := r2283.up b7449
  replace b2280 := b2280.trans (b7449.mono b2280.size)
  replace b65 := b65.trans (b7449.mono b65.size)
  replace rw0 := rw0.up b7449
  replace rp := rp.up b7449
  replace b50 := b50.trans (b7449.mono b50.size)
  replace q := q.trans (b7449.mono q.size)
  replace r4102 := r4102.up b7449
  have l7536 := r7452.lt
  have l7537 := rv.lt
  have l7538 := r2283.lt
  have l7539 := rw0.lt
  have l7540 := rp.lt
  have l7541 := r4102.lt
  (refine LL.call (R.call rfl rfl rfl) rfl rfl rfl (psame_any _ _ [((1 : Int), 40), ((11 : Int), 0)] [((1 : Int), 40), ((11 : Int), 0)] _ (hmF _ q2) (RowL.readsT pEnc (ts := [((1 : Int), 40), ((11 : Int), 0)]) (by assumption) 2 (by decide)) (by decide) (by decide)) ?_; rintro e W7535 ⟨rfl, b7532⟩; refine ⟨_, rfl, ?_⟩; rw [decide_eq_true rfl])
  have zb7532 := b7532.size
  replace r7452 := r7452.up b7532
  replace b7449 := b7449.trans (b7532.mono b7449.size)
  replace b4099 := b4099.trans (b7532.mono b4099.size)
  replace b3776 := b3776.trans (b7532.mono b3776.size)
  replace rv := rv.up b7532
  replace b3095 := b3095.trans (b7532.mono b3095.size)
  replace q2 := q2.trans (b7532.mono q2.size)
  replace b2625 := b2625.trans (b7532.mono b2625.size)
  replace q1 := q1.trans (b7532.mono q1.size)
  replace b2305 := b2305.trans (b7532.mono b2305.size)
  replace r2283 := r2283.up b7532
  replace b2280 := b2280.trans (b7532.mono b2280.size)
  replace b65 := b65.trans (b7532.mono b65.size)
  replace rw0 := rw0.up b7532
  replace rp := rp.up b7532
  replace b50 := b50.trans (b7532.mono b50.size)
  replace q := q.trans (b7532.mono q.size)
  replace r4102 := r4102.up b7532
  refine LL.val (R.pick rfl rfl rfl) rfl rfl rfl ?_
  refine LL.val (R.assign rfl rfl) rfl rfl rfl ?_
  refine LL.nilS ?_
  refine CC.ret ?_
  refine EE.ret _ rfl rfl ?_
  exact ⟨rfl, q⟩
end Go.Proofs.Ytfplilpefhhpnaa
/- node: NodeHolds (written by gennd18.py). -/
namespace Go.Proofs.Ytfplilpefhhpnaa
set_option linter.unusedVariables false
set_option linter.unusedSimpArgs false
open Go.RowKit Go.Shelf
theorem LL.keep {P : Program} {ops : Array Oper} {Q : Exit → Act → World → Prop} {n : Nat} {D : List Deferred} {M : Slots} {w : World} {r : Option Nat} {l : List Oper} (L : List (Nat × Value)) (hL : Fits M L) (h : LL r P ops Q n D (sl L) l w) : LL r P ops Q n D M l w := LL.mk fun a F => h.h a (F.keep L hL)

set_option maxRecDepth 100000
set_option maxHeartbeats 8000000
/-- Ways that meet. -/
structure Later (A : Prop) : Prop where
  out : A
--C ref09_Same | hsm6 @w (q6.trans (b'.mono q6.size)) (q2.trans (b'.mono q2.size)) | ⟨rfl, @b⟩
--C ref09_Same | hsm6 @w q6 q2 | ⟨rfl, @b⟩
end Go.Proofs.Ytfplilpefhhpnaa
/- node: behind a split both nodes are settled: the mathematics (written by gennd26.py). -/
namespace Go.Proofs.Ytfplilpefhhpnaa
set_option linter.unusedVariables false
set_option linter.unusedSimpArgs false
open Go.RowKit Go.Shelf
set_option maxRecDepth 100000
set_option maxHeartbeats 8000000
end Go.Proofs.Ytfplilpefhhpnaa
/- node: Child (written by gennd23.py). -/
namespace Go.Proofs.Ytfplilpefhhpnaa
set_option linter.unusedVariables false
set_option linter.unusedSimpArgs false
open Go.RowKit Go.Shelf
set_option maxRecDepth 100000
set_option maxHeartbeats 8000000
end Go.Proofs.Ytfplilpefhhpnaa
/- Opening the arguments of a law: slices of numbers, pairs of numbers. -/
namespace Go.Proofs.Ytfplilpefhhpnaa
set_option linter.unusedVariables false
set_option linter.unusedSimpArgs false
open Go.RowKit Go.ChangeShapes Go.WideShapes Go.ChangeAt

theorem own : ownKnob Try.prog.godebug = none := by kernel_rfl
theorem laidOut : laidOutB Try.prog = true := by kernel_rfl

section
variable {H : Type} {enc : TypeId × Value → H} {P : Program} {w : World} {base : Nat} {spare : Nat → Bool} {held : Bool} {r : Reach} {b0 : Nat} {t : TypeId} {v : Value} {d : DataW H} {p : List MemPlace}

theorem wf_u64 {n : Int} (h : (Lit.int .u64 n).wf = true) : 0 ≤ n ∧ n < 18446744073709551616 := by
  simp [Lit.wf, IntKind.min, IntKind.max, IntKind.signed, IntKind.bits] at h; omega
/-- A slice of unsigned numbers. -/
theorem open_nats {e : TypeId} {k : IntKind} {M : Nat} (ht : P.underlying t = some (.slice e)) (he : P.underlying e = some (.int k)) (hc : P.cellsOf e = 1) (hk : ∀ n, (Lit.int k n).wf = true → 0 ≤ n ∧ n < (M : Int))
    (hv : Value.okWide P w r b0 t v) (h : DataW.Trod enc P w base spare held t v d p) : ∃ ns : List Nat, Reads w v (ints k ns) ∧ (∀ n ∈ ns, n < M) ∧ ns.length ≤ 9223372036854775807 := by
  obtain ⟨a, len, cap, rfl⟩ := okWide_slice ht hv
  obtain ⟨fuel, hf⟩ := h
  rcases open_ints ht he hc hf with ⟨hcs, _⟩ | ⟨x, l, c, zs, hcs, _, hl, hm, hz, _, hcell, hwz⟩
  · simp [Value.cells] at hcs
    obtain ⟨rfl, rfl, rfl⟩ := hcs
    exact ⟨[], Reads.nil w, by simp, by simp⟩
  · simp [Value.cells] at hcs
    obtain ⟨rfl, rfl, rfl⟩ := hcs
    have hlz : len ≤ zs.length := by rw [hz]; split <;> omega
    refine ⟨(zs.take len).map Int.toNat, ?_, ?_, ?_⟩
    · have hlen : ((zs.take len).map Int.toNat).length = len := by simp; omega
      refine ⟨some x, cap, by rw [List.length_map, hlen], by rw [List.length_map, hlen]; exact hl, fun hne => ?_⟩
      have h0 : 0 < len := by
        rcases Nat.eq_zero_or_pos len with h0 | h0
        · subst h0; simp at hne
        · exact h0
      obtain ⟨b, off, spot⟩ := x
      have hc0 := hcell 0 (by omega)
      have hspot : spot = none := by simpa [Addr.add] using World.cell?_spot hc0
      subst hspot
      have hblt : b < w.heap.size := by
        rcases Nat.lt_or_ge b w.heap.size with hb | hb
        · exact hb
        · simp [Addr.add, World.cell?, Array.getElem?_eq_none hb] at hc0
      refine ⟨b, off, rfl, hblt, fun j hj => ?_⟩
      rw [List.length_map, hlen] at hj
      have hcj := hcell j (by omega)
      have hjz : j < zs.length := by omega
      have hw := hk _ (hwz zs[j] (List.getElem_mem hjz))
      rw [Addr.add_lit] at hcj
      rw [hcj]
      simp [List.getElem?_take, hj, hjz, List.getD]
      omega
    · intro n hn
      simp only [List.mem_map] at hn
      obtain ⟨z, hz', rfl⟩ := hn
      have := hk _ (hwz z (List.mem_of_mem_take hz'))
      omega
    · simp only [List.length_map, List.length_take]
      unfold maxLen at hm
      omega

end
end Go.Proofs.Ytfplilpefhhpnaa
/- Opening the arguments of a law: structs and arrays of integers, and of such. Over any program. -/
namespace Go.Proofs.Ytfplilpefhhpnaa
set_option linter.unusedVariables false
set_option linter.unusedSimpArgs false
open Go.RowKit Go.ChangeShapes Go.WideShapes Go.ChangeAt
/-- Which kind of integer lies at a cell. -/
def atC (P : Program) : Nat → TypeId → Nat → Option IntKind
  | 0, _, _ => none
  | d + 1, t, j => match P.underlying t with
    | some (.struct fs) => fs.toList.findSome? fun f => if f.offset ≤ j ∧ j < f.offset + P.cellsOf f.type then atC P d f.type (j - f.offset) else none
    | some (.array n e) => if j / P.cellsOf e < n then atC P d e (j % P.cellsOf e) else none
    | some (.int k) => if j = 0 then some k else none
    | _ => none
section
variable {H : Type} {enc : TypeId × Value → H} {P : Program} {w : World} {base : Nat} {spare : Nat → Bool} {held : Bool} {r : Reach} {b0 : Nat} {t : TypeId} {v : Value} {d : DataW H} {p : List MemPlace}
theorem trod_at : ∀ (n : Nat) (t : TypeId) (j fuel : Nat) (cs : List Value) (x : DataW H × List MemPlace) (k : IntKind), atC P n t j = some k → DataW.trod enc P w base spare held fuel t cs = some x → ∃ z : Int, cs[j]? = some (.int k z) ∧ (Lit.int k z).wf = true
  | 0, _, _, _, _, _, _, h, _ => by cases h
  | n + 1, t, j, fuel, cs, x, k, h, hx => by
    cases hu : P.underlying t with
    | none => simp [atC, hu] at h
    | some kd =>
      cases kd <;> simp only [atC, hu] at h <;> try (cases h; done)
      case int q =>
        split at h
        · rename_i hj
          cases h
          subst hj
          obtain ⟨z, e, _, hw⟩ := DataW.trod_int hu hx
          exact ⟨z, by rw [e]; rfl, hw⟩
        · cases h
      case struct fs =>
        obtain ⟨f, hf, hfk⟩ := List.exists_of_findSome?_eq_some h
        split at hfk
        · rename_i hj
          obtain ⟨xs, m, _, rfl, hl, hlen, hf2⟩ := DataW.trod_struct hu hx
          obtain ⟨i, hi⟩ := List.mem_iff_getElem?.1 hf
          have h2 := hf2 i f (by simpa using hi)
          have hil : i < xs.length := by
            have := (List.getElem?_eq_some_iff.1 hi).1
            rw [Array.length_toList] at this
            omega
          rw [List.getElem?_eq_getElem hil] at h2
          obtain ⟨z, e, hw⟩ := trod_at n f.type (j - f.offset) _ _ _ k hfk h2
          refine ⟨z, ?_, hw⟩
          rw [List.getElem?_take] at e
          split at e
          · rw [List.getElem?_drop] at e
            rwa [show f.offset + (j - f.offset) = j by omega] at e
          · cases e
        · cases hfk
      case array m e =>
        split at h
        · rename_i hj
          obtain ⟨xs, m', _, rfl, hl, hlen, hi⟩ := DataW.trod_array hu hx
          have h2 := hi _ hj
          rw [List.getElem?_eq_getElem (by omega)] at h2
          obtain ⟨z, e', hw⟩ := trod_at n e (j % P.cellsOf e) _ _ _ k h h2
          refine ⟨z, ?_, hw⟩
          rw [List.getElem?_take] at e'
          split at e'
          · rw [List.getElem?_drop] at e'
            rwa [show j / P.cellsOf e * P.cellsOf e + j % P.cellsOf e = j by rw [Nat.mul_comm]; exact Nat.div_add_mod _ _] at e'
          · cases e'
        · cases h
theorem open_ints {c : Nat} (ks : Nat → IntKind) (hs : (match P.underlying t with | some (.struct _) | some (.array _ _) => true | _ => false) = true) (hc : P.cellsOf t = c) (hk : (List.range c).all (fun j => atC P 9 t j == some (ks j)) = true)
    (hv : Value.okWide P w r b0 t v) (h : DataW.Trod enc P w base spare held t v d p) : ∃ g : Nat → Int, v = .agg ((List.range c).map fun j => Value.int (ks j) (g j)).toArray ∧ ∀ j, j < c → (Lit.int (ks j) (g j)).wf = true := by
  have hg : ∃ cs, v = .agg cs ∧ cs.size = P.cellsOf t := by
    unfold Value.okWide at hv
    split at hv
    · obtain ⟨cs, h1, h2, _⟩ := hv; exact ⟨cs, h1, h2⟩
    · obtain ⟨cs, h1, h2, _⟩ := hv; exact ⟨cs, h1, h2⟩
    · rename_i h1 h2
      split at hs <;> simp_all
  obtain ⟨cs, rfl, hsz⟩ := hg
  obtain ⟨fuel, hf⟩ := h
  have key : ∀ j, ∃ z : Int, j < c → cs.toList[j]? = some (.int (ks j) z) ∧ (Lit.int (ks j) z).wf = true := by
    intro j
    by_cases hj : j < c
    · have hk' := List.all_eq_true.1 hk j (List.mem_range.2 hj)
      have hk'' : atC P 9 t j = some (ks j) := by simpa using hk'
      obtain ⟨z, h1, h2⟩ := trod_at 9 t j fuel _ _ _ hk'' hf
      exact ⟨z, fun _ => ⟨h1, h2⟩⟩
    · exact ⟨0, fun h => absurd h hj⟩
  refine ⟨fun j => Classical.choose (key j), ?_, fun j hj => (Classical.choose_spec (key j) hj).2⟩
  congr 1
  apply Array.ext'
  apply List.ext_getElem?
  intro j
  simp only [List.toList_toArray, List.getElem?_map]
  by_cases hj : j < c
  · rw [(Classical.choose_spec (key j) hj).1, List.getElem?_range hj]
    rfl
  · rw [List.getElem?_eq_none (by rw [Array.length_toList, hsz, hc]; omega), List.getElem?_eq_none (by simp; omega)]
    rfl
end
end Go.Proofs.Ytfplilpefhhpnaa
/- slots: what the shells hand over. -/
namespace Go.Proofs.Ytfplilpefhhpnaa
set_option linter.unusedVariables false
set_option linter.unusedSimpArgs false
open Go.RowKit Go.Shelf
set_option maxRecDepth 100000
set_option maxHeartbeats 8000000
end Go.Proofs.Ytfplilpefhhpnaa
/- NodeChildren, any input. -/
namespace Go.Proofs.Ytfplilpefhhpnaa
set_option linter.unusedVariables false
set_option linter.unusedSimpArgs false
open Go.RowKit Go.Shelf
set_option maxRecDepth 100000
set_option maxHeartbeats 8000000
theorem lent11_any (n : Nat) (v : Value) (l : List Nat) (w : World) (hv : ReadsT uE 1 w v l) (hN : l.length = n) (hlen : n ≤ 1048576) : Calls Try.prog 8 #[v] w fun e w' => ∃ g cap, e = .returned (.slice (some ⟨g, 0, none⟩) n cap) ∧ ReadsT uE 1 w' (.slice (some ⟨g, 0, none⟩) (n + 1) cap) (l ++ [77]) ∧ n + 1 ≤ cap ∧ w.heap.size ≤ g ∧ Below w.heap.size w w' := by
  have q := Below.refl w.heap.size w
  obtain ⟨a, cap, rfl, hcap⟩ := hv.form hN
  refine X.fn Try.func8 rfl (n := 11) rfl rfl ?_
  refine CC.seq ?_
  refine CC.region ?_
  refine LL.val (R.assign rfl rfl) rfl rfl rfl ?_
  refine LL.nilS ?_
  refine CC.seq ?_
  refine CC.region ?_
  refine LL.lit (e := 25) [] 0 rfl rfl (fun _ => by kernel_rfl) rfl rfl ?_
  intro W2 g3 eg3 r4 z5 b1
  replace q := q.trans (b1.mono q.size)
  replace hv := hv.up b1
  refine LL.val (R.move rfl rfl) rfl rfl rfl ?_
  have yq := q.size
  refine LL.appendT2 rfl rfl uEnc ElU (RowL.ownsT (base := w.heap.size) (ts := ([] : List Nat)) uEnc (by assumption) (by omega) (by simp)) hv (by simp [maxLen]; omega) (by simp; omega) (by omega) rfl rfl ?_
  intro v0 Wa o gra hva
  rw [List.nil_append] at o
  replace q := q.grown gra (by omega) (by rintro k ⟨⟩; show w.heap.size ≤ g3; omega)
  clear hv r4 hva
  have yq := q.size
  refine LL.lit (e := 25) [Value.int IntKind.u64 77] 1 rfl rfl (fun _ => by kernel_rfl) rfl rfl ?_
  intro Wa2 ga3 ega3 ra4 za5 ba1
  replace o := o.up ba1
  replace q := q.trans (ba1.mono q.size)
  have yq := q.size
  refine LL.appendT2 rfl rfl uEnc ElU o (RowL.readsT (ts := [77]) uEnc (by assumption) 1 (by simp)) (by simp [maxLen]; omega) (by simp; omega) (by omega) rfl rfl ?_
  intro v1 Wb o1 grb hvb
  replace q := q.grown grb (by omega) (fun g hg => by have := own_ge o g hg; omega)
  obtain ⟨g, cp, rfl, hbg, hgl, hnc⟩ := ownsT_form (N := n + 1) o1 (by simp [hN]) (by omega)
  have hr1 := o1.reads uEnc
  refine LL.val (R.move rfl rfl) rfl rfl rfl ?_
  refine LL.val (R.len rfl rfl rfl rfl) rfl rfl rfl ?_
  refine LL.val (R.slice rfl rfl rfl rfl rfl (I.slTo rfl (by omega))) rfl rfl rfl ?_
  refine LL.val (R.assign rfl rfl) rfl rfl rfl ?_
  refine LL.nilS ?_
  refine CC.ret ?_
  refine EE.ret _ rfl rfl ?_
  exact ⟨g, cp, rfl, hr1, hnc, by omega, q⟩
--C law11_works | works11_any @w | ⟨rfl, @b⟩
--C law11_num | num11_any _ @w | S
end Go.Proofs.Ytfplilpefhhpnaa
