/- record: the document's record of words. -/
import Derived.Test.YtefepklacchghaaWordsW
namespace Go.Proofs.Ytefepklacchghaa
set_option linter.unusedVariables false
set_option linter.unusedSimpArgs false
open Go.RowKit Go.Shelf
section
variable {P : Program} {w : World} {t u T : TypeId} {o : Oper} {x y : Operand} {n e k : Nat} {D : List Deferred} {M : Slots}
theorem R.remUE {a b z : Nat} (ho : o.op = .binOp .rem t x y u) (hx : evM M x = some (.int .u64 (a : Int))) (hy : evM M y = some (.int .u64 (b : Int))) (h : 0 < b) (hz : a % b = z) : Runs P n D M o w (.value (.int .u64 (z : Int))) w := R.bin ho hx hy (by
  have e : ((a : Int).tmod (b : Int)) = ((a % b : Nat) : Int) := by rw [Int.tmod_eq_emod_of_nonneg (by omega)]; simp
  subst hz
  obtain ⟨q, hq⟩ : ∃ q, a % b = q := ⟨_, rfl⟩
  rw [hq] at e ⊢
  have hb : b ≠ 0 := by omega
  simp [eqGuard, binOp, Op.intDiv, hb, e])
theorem R.quoUE {a b z : Nat} (ho : o.op = .binOp .quo t x y u) (hx : evM M x = some (.int .u64 (a : Int))) (hy : evM M y = some (.int .u64 (b : Int))) (h : 0 < b) (hz : a / b = z) (hl : a < 18446744073709551616) : Runs P n D M o w (.value (.int .u64 (z : Int))) w := R.bin ho hx hy (by
  have e : ((a : Int).tdiv (b : Int)) = ((a / b : Nat) : Int) := by rw [Int.tdiv_eq_ediv_of_nonneg (by omega)]; simp
  have h3 : a / b < 18446744073709551616 := Nat.lt_of_le_of_lt (Nat.div_le_self _ _) hl
  subst hz
  obtain ⟨q, hq⟩ : ∃ q, a / b = q := ⟨_, rfl⟩
  rw [hq] at e h3 ⊢
  have hb : b ≠ 0 := by omega
  have hw : IntKind.u64.wrap (q : Int) = (q : Int) := IntWalk.u64_in _ (by omega)
  simp [eqGuard, binOp, Op.intDiv, hb, e, hw])
theorem I.slToK {kk : IntKind} {a : Option Addr} {len cap hi : Nat} (h : slB P T = some (e, k)) (h2 : hi ≤ cap) : (Instr.sliceAt T (.slice a len cap) none (some (.int kk (hi : Int))) none).run P w = .ok (.slice a hi cap) w := by
  refine slAt_sl h ?_
  obtain ⟨hu, hs⟩ := sl_of h
  obtain ⟨i, hi', hsz⟩ : ∃ i, P.info? e = some i ∧ i.size = k := by
    unfold szB at hs
    cases hq : P.info? e with
    | none => rw [hq] at hs; cases hs
    | some i => rw [hq] at hs; exact ⟨i, rfl, by simpa using hs⟩
  simp [Instr.slice, run_underlying hu, Instr.sliceBounds, run_sliceBound, sizeOf, typeInfo, hi', hsz, (by omega : (hi : Int) ≤ (cap : Int))]
  cases a <;> simp [Addr.add]
end
theorem bytesL_app (a b : List Nat) : bytesL (a ++ b) = bytesL a ++ bytesL b := by simp [bytesL]
theorem recW_bytes {n : Nat} {l : Bs} (h : 1 ≤ l.length ∧ l.length ≤ 120) : ofN ((bytesL ((recW n l).drop 1)).take l.length) = l := by
  have e : (recW n l).drop 1 = layL (nbL l) ++ List.replicate (16 - (headR n l :: layL (nbL l)).length) 0 := by
    unfold recW padL
    rw [List.cons_append, List.drop_one, List.tail_cons]
  rw [e, bytesL_app, List.take_append_of_le_length (by rw [bytesL_length, layL_len]; omega)]
  have := lay_take (nbL l) (nbL_lt l)
  rw [nbL_len] at this
  rw [this, ofN_nbL]
set_option maxRecDepth 100000 in
set_option maxHeartbeats 8000000 in
theorem rof_16 (v : Value) (ws : List Nat) (w : World) (hv : Reads w v (ints .u64 ws)) (hws : ws.length ≠ 16) (hlen : ws.length ≤ 1048576) : Calls Try.prog 14 #[v] w fun e w' => e = .returned (.tuple #[recV 0 [], .int .i64 250]) ∧ Below w.heap.size w w' := by
  have q := Below.refl w.heap.size w
  obtain ⟨N, hN⟩ : ∃ N, ws.length = N := ⟨_, rfl⟩
  rw [hN] at hws hlen
  obtain ⟨a, cap, rfl, hcap, hcells⟩ := hv.intsN hN
  clear hv hcells
  refine X.fn Try.func14 rfl (n := 56) rfl rfl ?_
  refine CC.seq ?_
  refine CC.region ?_
  refine LL.alloc ([Value.int IntKind.i64 0, Value.string { data := { toList := [] } }]) rfl rfl rfl rfl rfl ?_
  intro W2 g3 eg3 r4 z5 b1
  replace q := q.trans (b1.mono q.size)
  refine LL.val (R.assign rfl rfl) rfl rfl rfl ?_
  refine LL.nilS ?_
  refine CC.seq ?_
  refine CC.seq ?_
  refine CC.region ?_
  refine LL.val (R.move rfl rfl) rfl rfl rfl ?_
  refine LL.val (R.len rfl rfl rfl rfl) rfl rfl rfl ?_
  refine LL.val (R.neT rfl rfl rfl (by omega)) rfl rfl rfl ?_
  refine LL.val (R.move rfl rfl) rfl rfl rfl ?_
  refine LL.skip rfl rfl ?_
  refine LL.skip rfl rfl ?_
  refine LL.skip rfl rfl ?_
  refine LL.skip rfl rfl ?_
  refine LL.val (R.pick rfl rfl rfl) rfl rfl rfl ?_
  refine LL.val (R.move rfl rfl) rfl rfl rfl ?_
  refine LL.skip rfl rfl ?_
  refine LL.skip rfl rfl ?_
  refine LL.skip rfl rfl ?_
  refine LL.skip rfl rfl ?_
  refine LL.skip rfl rfl ?_
  refine LL.val (R.pick rfl rfl rfl) rfl rfl rfl ?_
  refine LL.nilS ?_
  refine CC.yes rfl ?_
  refine CC.seq ?_
  refine CC.region ?_
  refine LL.val (R.buildV rfl rfl (v := .agg #[Value.int IntKind.i64 0, Value.string { data := #[] }]) (fun _ => by kernel_rfl)) rfl rfl rfl ?_
  refine LL.storeN (vs := [Value.int IntKind.i64 0, Value.string { data := #[] }]) rfl rfl rfl rfl r4 (by exact Nat.le_of_ble_eq_true rfl) (ones_of rfl) rfl rfl ?_
  intro W7 r8 b6 z9
  have hlb6 := r4.lt
  replace r8 : RowL W7 _ 23 [Value.int IntKind.i64 0, Value.string { data := #[] }] := r8
  clear r4
  replace b1 := b1.grown b6 b1.size (by rintro k ⟨⟩; omega)
  replace q := q.grown b6 q.size (by rintro k ⟨⟩; omega)
  have r4 := r8
  clear r8
  refine LL.val (R.assign rfl rfl) rfl rfl rfl ?_
  refine LL.nilS ?_
  refine CC.ret ?_
  refine EE.thenR ?_
  refine EE.ret2 rfl ⟨_, rfl, lvNc (RowL.cells0 (by assumption)) (by rfl) (by rfl)⟩ rfl ?_
  exact ⟨rfl, q⟩
set_option maxRecDepth 100000 in
set_option maxHeartbeats 8000000 in
theorem rof_big (v : Value) (ws : List Nat) (w : World) (x : Nat) (hv : Reads w v (ints .u64 ws)) (hws : ws.length = 16) (hxd : wd0 ws = x) (hx : x < 18446744073709551616) (h : 16777216 ≤ x ∨ 120 < x / 65536) : Calls Try.prog 14 #[v] w fun e w' => e = .returned (.tuple #[recV 0 [], .int .i64 250]) ∧ Below w.heap.size w w' := by
  have q := Below.refl w.heap.size w
  obtain ⟨a, cap, rfl, hcap, hcells⟩ := hv.intsN hws
  obtain ⟨bk, off, rfl, hbk, hc⟩ := hcells (by omega)
  have c1 : w.cell? ⟨bk, off + 0, none⟩ = some (.int .u64 (x : Int)) := by rw [← hxd]; exact hc 0 (by omega)
  clear hc hcells hxd hv
  by_cases h2 : 16777216 ≤ x
  · refine X.fn Try.func14 rfl (n := 56) rfl rfl ?_
    refine CC.seq ?_
    refine CC.region ?_
    refine LL.alloc ([Value.int IntKind.i64 0, Value.string { data := { toList := [] } }]) rfl rfl rfl rfl rfl ?_
    intro W2 g3 eg3 r4 z5 b1
    replace q := q.trans (b1.mono q.size)
    replace c1 := cell_up c1 b1
    refine LL.val (R.assign rfl rfl) rfl rfl rfl ?_
    refine LL.nilS ?_
    refine CC.seq ?_
    refine CC.seq ?_
    refine CC.region ?_
    refine LL.val (R.move rfl rfl) rfl rfl rfl ?_
    refine LL.val (R.len rfl rfl rfl rfl) rfl rfl rfl ?_
    refine LL.val (R.neF rfl rfl rfl (by omega)) rfl rfl rfl ?_
    refine LL.val (R.move rfl rfl) rfl rfl rfl ?_
    refine LL.val (R.move rfl rfl) rfl rfl rfl ?_
    refine LL.val (R.index rfl rfl rfl (I.ixS1c rfl rfl (by omega))) rfl rfl rfl ?_
    refine LL.val (R.load rfl rfl (I.ld1 rfl (by assumption))) rfl rfl rfl ?_
    refine LL.val (R.geT rfl rfl rfl (by omega)) rfl rfl rfl ?_
    refine LL.val (R.pick rfl rfl rfl) rfl rfl rfl ?_
    refine LL.val (R.move rfl rfl) rfl rfl rfl ?_
    refine LL.skip rfl rfl ?_
    refine LL.skip rfl rfl ?_
    refine LL.skip rfl rfl ?_
    refine LL.skip rfl rfl ?_
    refine LL.skip rfl rfl ?_
    refine LL.val (R.pick rfl rfl rfl) rfl rfl rfl ?_
    refine LL.nilS ?_
    refine CC.yes rfl ?_
    refine CC.seq ?_
    refine CC.region ?_
    refine LL.val (R.buildV rfl rfl (v := .agg #[Value.int IntKind.i64 0, Value.string { data := #[] }]) (fun _ => by kernel_rfl)) rfl rfl rfl ?_
    refine LL.storeN (vs := [Value.int IntKind.i64 0, Value.string { data := #[] }]) rfl rfl rfl rfl r4 (by exact Nat.le_of_ble_eq_true rfl) (ones_of rfl) rfl rfl ?_
    intro W7 r8 b6 z9
    have hlb6 := r4.lt
    replace r8 : RowL W7 _ 23 [Value.int IntKind.i64 0, Value.string { data := #[] }] := r8
    clear r4
    replace b1 := b1.grown b6 b1.size (by rintro k ⟨⟩; omega)
    replace q := q.grown b6 q.size (by rintro k ⟨⟩; omega)
    replace c1 := cell_gr c1 b6 (by omega)
    have r4 := r8
    clear r8
    refine LL.val (R.assign rfl rfl) rfl rfl rfl ?_
    refine LL.nilS ?_
    refine CC.ret ?_
    refine EE.thenR ?_
    refine EE.ret2 rfl ⟨_, rfl, lvNc (RowL.cells0 (by assumption)) (by rfl) (by rfl)⟩ rfl ?_
    exact ⟨rfl, q⟩
  · refine X.fn Try.func14 rfl (n := 56) rfl rfl ?_
    refine CC.seq ?_
    refine CC.region ?_
    refine LL.alloc ([Value.int IntKind.i64 0, Value.string { data := { toList := [] } }]) rfl rfl rfl rfl rfl ?_
    intro Wa2 ga3 ega3 ra4 za5 ba1
    replace q := q.trans (ba1.mono q.size)
    replace c1 := cell_up c1 ba1
    refine LL.val (R.assign rfl rfl) rfl rfl rfl ?_
    refine LL.nilS ?_
    refine CC.seq ?_
    refine CC.seq ?_
    refine CC.region ?_
    refine LL.val (R.move rfl rfl) rfl rfl rfl ?_
    refine LL.val (R.len rfl rfl rfl rfl) rfl rfl rfl ?_
    refine LL.val (R.neF rfl rfl rfl (by omega)) rfl rfl rfl ?_
    refine LL.val (R.move rfl rfl) rfl rfl rfl ?_
    refine LL.val (R.move rfl rfl) rfl rfl rfl ?_
    refine LL.val (R.index rfl rfl rfl (I.ixS1c rfl rfl (by omega))) rfl rfl rfl ?_
    refine LL.val (R.load rfl rfl (I.ld1 rfl (by assumption))) rfl rfl rfl ?_
    refine LL.val (R.geF rfl rfl rfl (by omega)) rfl rfl rfl ?_
    refine LL.val (R.pick rfl rfl rfl) rfl rfl rfl ?_
    refine LL.val (R.move rfl rfl) rfl rfl rfl ?_
    refine LL.val (R.move rfl rfl) rfl rfl rfl ?_
    refine LL.val (R.index rfl rfl rfl (I.ixS1c rfl rfl (by omega))) rfl rfl rfl ?_
    refine LL.val (R.load rfl rfl (I.ld1 rfl (by assumption))) rfl rfl rfl ?_
    refine LL.val (R.quoUE (b := 65536) (z := x / 65536) rfl rfl rfl (by decide) rfl (by omega)) rfl rfl rfl ?_
    refine LL.val (R.gtT rfl rfl rfl (by omega)) rfl rfl rfl ?_
    refine LL.val (R.pick rfl rfl rfl) rfl rfl rfl ?_
    refine LL.nilS ?_
    refine CC.yes rfl ?_
    refine CC.seq ?_
    refine CC.region ?_
    refine LL.val (R.buildV rfl rfl (v := .agg #[Value.int IntKind.i64 0, Value.string { data := #[] }]) (fun _ => by kernel_rfl)) rfl rfl rfl ?_
    refine LL.storeN (vs := [Value.int IntKind.i64 0, Value.string { data := #[] }]) rfl rfl rfl rfl ra4 (by exact Nat.le_of_ble_eq_true rfl) (ones_of rfl) rfl rfl ?_
    intro Wa7 ra8 ba6 za9
    have hlba6 := ra4.lt
    replace ra8 : RowL Wa7 _ 23 [Value.int IntKind.i64 0, Value.string { data := #[] }] := ra8
    clear ra4
    replace ba1 := ba1.grown ba6 ba1.size (by rintro k ⟨⟩; omega)
    replace q := q.grown ba6 q.size (by rintro k ⟨⟩; omega)
    replace c1 := cell_gr c1 ba6 (by omega)
    have ra4 := ra8
    clear ra8
    refine LL.val (R.assign rfl rfl) rfl rfl rfl ?_
    refine LL.nilS ?_
    refine CC.ret ?_
    refine EE.thenR ?_
    refine EE.ret2 rfl ⟨_, rfl, lvNc (RowL.cells0 (by assumption)) (by rfl) (by rfl)⟩ rfl ?_
    exact ⟨rfl, q⟩
set_option maxRecDepth 100000 in
set_option maxHeartbeats 8000000 in
theorem rof_bad1 (v : Value) (ws : List Nat) (w : World) (x k : Nat) (l : Bs) (hv : Reads w v (ints .u64 ws)) (hw : ∀ y ∈ ws, y < 18446744073709551616) (hws : ws.length = 16) (hxd : wd0 ws = x) (hx : x < 16777216) (hk : x / 65536 = k) (hk2 : k ≤ 120) (hl : ofN ((bytesL (ws.drop 1)).take k) = l) (h : ¬okR ((x % 65536 : Nat) : Int) l) : Calls Try.prog 14 #[v] w fun e w' => e = .returned (.tuple #[recV 0 [], .int .i64 250]) ∧ Below w.heap.size w w' := by
  subst hl
  have q := Below.refl w.heap.size w
  obtain ⟨a, cap, rfl, hcap, hcells⟩ := hv.intsN hws
  obtain ⟨bk, off, rfl, hbk, hc⟩ := hcells (by omega)
  have c1 : w.cell? ⟨bk, off + 0, none⟩ = some (.int .u64 (x : Int)) := by rw [← hxd]; exact hc 0 (by omega)
  have hP := hv.part (lo := 1) (hi := 16) (by omega) (by omega) (by omega)
  have hdl : (ws.drop 1).length = 15 := by simp [hws]
  rw [show ((ints .u64 ws).drop 1).take (16 - 1) = ints .u64 (ws.drop 1) by rw [List.take_of_length_le (by simp [hws])]; simp [ints]] at hP
  have hwd : ∀ y ∈ ws.drop 1, y < 18446744073709551616 := fun y hy => hw y (List.mem_of_mem_drop hy)
  clear hc hcells hxd
  refine X.fn Try.func14 rfl (n := 56) rfl rfl ?_
  refine CC.seq ?_
  refine CC.region ?_
  refine LL.alloc ([Value.int IntKind.i64 0, Value.string { data := { toList := [] } }]) rfl rfl rfl rfl rfl ?_
  intro W2 g3 eg3 r4 z5 b1
  replace q := q.trans (b1.mono q.size)
  replace hv := hv.up b1
  replace c1 := cell_up c1 b1
  replace hP := hP.up b1
  refine LL.val (R.assign rfl rfl) rfl rfl rfl ?_
  refine LL.nilS ?_
  refine CC.seq ?_
  refine CC.seq ?_
  refine CC.region ?_
  refine LL.val (R.move rfl rfl) rfl rfl rfl ?_
  refine LL.val (R.len rfl rfl rfl rfl) rfl rfl rfl ?_
  refine LL.val (R.neF rfl rfl rfl (by omega)) rfl rfl rfl ?_
  refine LL.val (R.move rfl rfl) rfl rfl rfl ?_
  refine LL.val (R.move rfl rfl) rfl rfl rfl ?_
  refine LL.val (R.index rfl rfl rfl (I.ixS1c rfl rfl (by omega))) rfl rfl rfl ?_
  refine LL.val (R.load rfl rfl (I.ld1 rfl (by assumption))) rfl rfl rfl ?_
  refine LL.val (R.geF rfl rfl rfl (by omega)) rfl rfl rfl ?_
  refine LL.val (R.pick rfl rfl rfl) rfl rfl rfl ?_
  refine LL.val (R.move rfl rfl) rfl rfl rfl ?_
  refine LL.val (R.move rfl rfl) rfl rfl rfl ?_
  refine LL.val (R.index rfl rfl rfl (I.ixS1c rfl rfl (by omega))) rfl rfl rfl ?_
  refine LL.val (R.load rfl rfl (I.ld1 rfl (by assumption))) rfl rfl rfl ?_
  refine LL.val (R.quoUE (b := 65536) (z := k) rfl rfl rfl (by decide) hk (by omega)) rfl rfl rfl ?_
  refine LL.val (R.gtF rfl rfl rfl (by omega)) rfl rfl rfl ?_
  refine LL.val (R.pick rfl rfl rfl) rfl rfl rfl ?_
  refine LL.nilS ?_
  refine CC.no rfl ?_
  refine CC.skip ?_
  refine EE.thenN ?_
  refine CC.seq ?_
  refine CC.region ?_
  refine LL.val (R.move rfl rfl) rfl rfl rfl ?_
  refine LL.val (R.slice rfl rfl rfl rfl rfl (I.slFrom (lo := 1) rfl (by omega) (by omega) (by omega))) rfl rfl rfl ?_
  refine LL.call (R.call rfl rfl rfl) rfl rfl rfl (rbytes_any _ (ws.drop 1) _ (by first | exact hP | assumption) hwd (by omega)) ?_
  rintro e W1 ⟨v', rfl, o, b1⟩
  refine ⟨_, rfl, ?_⟩
  replace q := q.trans (b1.mono q.size)
  replace c1 := cell_up c1 b1
  replace hv := hv.up b1
  replace r4 := r4.up b1
  have hown : W1.ownsRow W2.heap.size 5 1 v' 120 (ints .u8 (bytesL (ws.drop 1))) := by have := o; rw [hdl] at this; exact this
  obtain ⟨gb, cb, rfl, hgb, lgb, hcb⟩ := owns_at hown (by omega)
  have hbt := (reads_of_owns hown).take k (by omega) cb (by omega)
  rw [show (ints .u8 (bytesL (ws.drop 1))).take k = ints .u8 ((bytesL (ws.drop 1)).take k) by simp [ints]] at hbt
  have y1 := q.size
  clear o hown b1 hP
  focus
    refine LL.val (R.assign rfl rfl) rfl rfl rfl ?_
    refine LL.nilS ?_
    refine CC.seq ?_
    refine CC.join (fun l_ Wa12 => ∃ (ga7 : Nat), l_ = [(0, Value.slice (some { block := bk, off := off }) 16 cap), (2, Value.pointer (some { block := g3, off := 0 })), (3, Value.int IntKind.i64 0), (8, Value.slice (some { block := bk, off := off }) 16 cap), (9, Value.int IntKind.i64 ↑16), (10, Value.bool false), (11, Value.bool false), (12, Value.slice (some { block := bk, off := off }) 16 cap), (13, Value.pointer (some { block := bk, off := off + 0 })), (14, Value.int IntKind.u64 ↑x), (15, Value.bool false), (16, Value.bool false), (17, Value.bool false), (18, Value.slice (some { block := bk, off := off }) 16 cap), (19, Value.pointer (some { block := bk, off := off + 0 })), (20, Value.int IntKind.u64 ↑x), (21, Value.int IntKind.u64 ↑k), (22, Value.bool false), (23, Value.bool false), (25, Value.slice (some { block := bk, off := off }) 16 cap), (26, Value.slice (some { block := bk, off := off + 1 * (fun x => x.size) Try.prog.types[38] }) (16 - 1) (cap - 1)), (27, Value.slice (some { block := gb, off := 0 }) 120 cb), (5, Value.pointer (some { block := ga7, off := 0 }))] ∧ (Below W1.heap.size W1 Wa12) ∧ (Below w.heap.size w Wa12) ∧ (Wa12.cell? { block := bk, off := off + 0 } = some (Value.int IntKind.u64 ↑x)) ∧ (Reads Wa12 (Value.slice (some { block := bk, off := off }) 16 cap) (ints IntKind.u64 ws)) ∧ (RowL Wa12 g3 23 [Value.int IntKind.i64 0, Value.string { data := { toList := [] } }]) ∧ (Reads Wa12 (Value.slice (some { block := gb, off := 0 }) k cb) (ints IntKind.u8 (List.take k (bytesL (List.drop 1 ws))))) ∧ (RowL Wa12 ga7 23 [Value.int IntKind.i64 ↑(x % 65536), Value.string (strB (List.take k (bytesL (List.drop 1 ws))))]) ∧ (W1.heap.size ≤ Wa12.heap.size) ∧ (W1.heap.size ≤ ga7)) (fun Ja17 => ?_) ?restJa17
    case' restJa17 =>
      clear q
      clear c1
      clear hv
      clear r4
      clear hbt
      rintro _ Wa12 ⟨ga7, rfl, ba1, q, c1, hv, r4, hbt, ra8, za15, za16⟩
    refine EE.thenN ?_
    refine CC.seq ?_
    refine CC.region ?_
    refine LL.val (R.load rfl rfl (I.ldNc (vs := [Value.int IntKind.i64 ↑(x % 65536), Value.string (strB (List.take k (bytesL (List.drop 1 ws))))]) (RowL.cells ra8 rfl) (by rfl) (by rfl))) rfl rfl rfl ?_
    rotate_left
    refine CC.freeZ (fun W_ j => j < W_.heap.size ∧ (True)) (by kernel_rfl) (by kernel_rfl) (fun Wa19 ba18 za20 => ?_)
    replace q := q.trans (ba18.mono q.size)
    replace c1 := cell_up c1 ba18
    replace hv := hv.up ba18
    replace r4 := r4.up ba18
    replace hbt := hbt.up ba18
    have hok : Kept (fun j => j < Wa19.heap.size ∧ (True)) Wa19 Wa19 := Kept.refl _ _
    have fzc1 := fzCell (K := fun j => j < Wa19.heap.size ∧ (True)) c1 ⟨World.block_lt_of_cell? _ _ c1, (by first | trivial | omega)⟩
    have fzr4 := fzRow (K := fun j => j < Wa19.heap.size ∧ (True)) r4 ⟨r4.lt, (by first | trivial | omega)⟩
    refine AA.pure 0 rfl hok (by kernel_rfl) (fun w' b' => R.move rfl rfl) rfl rfl ?_
    refine AA.pure 1 rfl hok (by kernel_rfl) (fun w' b' => R.index rfl rfl rfl (I.ixS1c rfl rfl (by omega))) rfl rfl ?_
    refine AA.pure 2 rfl hok (by kernel_rfl) (fun w' b' => R.load rfl rfl (I.ld1 rfl (fzc1 w' b'))) rfl rfl ?_
    refine AA.pure 3 rfl hok (by kernel_rfl) (fun w' b' => R.remUE (b := 65536) (z := x % 65536) rfl rfl rfl (by decide) rfl) rfl rfl ?_
    refine AA.pure 4 rfl hok (by kernel_rfl) (fun w' b' => R.convI rfl rfl rfl rfl (wrapI (by omega) (by omega))) rfl rfl ?_
    refine AA.pure 5 rfl hok (by kernel_rfl) (fun w' b' => R.move rfl rfl) rfl rfl ?_
    refine AA.pure 6 rfl hok (by kernel_rfl) (fun w' b' => R.move rfl rfl) rfl rfl ?_
    refine AA.pure 7 rfl hok (by kernel_rfl) (fun w' b' => R.index rfl rfl rfl (I.ixS1c rfl rfl (by omega))) rfl rfl ?_
    refine AA.pure 8 rfl hok (by kernel_rfl) (fun w' b' => R.load rfl rfl (I.ld1 rfl (fzc1 w' b'))) rfl rfl ?_
    refine AA.pure 9 rfl hok (by kernel_rfl) (fun w' b' => R.quoUE (b := 65536) (z := k) rfl rfl rfl (by decide) hk (by omega)) rfl rfl ?_
    refine AA.pure 10 rfl hok (by kernel_rfl) (fun w' b' => R.slice rfl rfl rfl rfl rfl (I.slToK rfl (by omega))) rfl rfl ?_
    refine AA.two 11 13 (by kernel_rfl) ?_ ?_
    refine SR.val rfl (R.conv rfl rfl (run_toStr rfl rfl (by assumption))) rfl rfl hok ?_
    refine AA.pure 12 rfl hok (by kernel_rfl) (fun w' b' => R.buildV rfl rfl (v := .agg #[Value.int IntKind.i64 ↑(x % 65536), Value.string (strB (List.take k (bytesL (List.drop 1 ws))))]) (fun _ => by kernel_rfl)) rfl rfl ?_
    refine AA.one 13 (by kernel_rfl) ?_
    have la21 := r4.lt
    refine ZR.alloc ([Value.int IntKind.i64 0, Value.string { data := { toList := [] } }]) rfl rfl rfl rfl rfl rfl ?_
    intro Wa23 ga24 ega24 ra25 za26 ba22
    replace ba18 := ba18.trans (ba22.mono ba18.size)
    replace q := q.trans (ba22.mono q.size)
    replace c1 := cell_up c1 ba22
    replace hv := hv.up ba22
    replace r4 := r4.up ba22
    replace hbt := hbt.up ba22
    replace hok := hok.trans (bkept ba22 (fun j h => by have := h.1; have := hok.size; omega))
    have ya27 := hok.size
    refine ⟨hok, ?_⟩
    refine AA.one 14 (by kernel_rfl) ?_
    refine ZR.storeN (vs := [Value.int IntKind.i64 ↑(x % 65536), Value.string (strB (List.take k (bytesL (List.drop 1 ws))))]) rfl rfl rfl rfl rfl ra25 (by exact Nat.le_of_ble_eq_true rfl) (ones_of rfl) rfl rfl ?_
    intro Wa29 ra30 ba28 za31
    have hlba28 := ra25.lt
    replace ra30 : RowL Wa29 _ 23 [Value.int IntKind.i64 ↑(x % 65536), Value.string (strB (List.take k (bytesL (List.drop 1 ws))))] := ra30
    clear ra25
    replace ba22 := ba22.grown ba28 ba22.size (by rintro k ⟨⟩; omega)
    replace ba18 := ba18.grown ba28 ba18.size (by rintro k ⟨⟩; omega)
    replace q := q.grown ba28 q.size (by rintro k ⟨⟩; omega)
    replace c1 := cell_gr c1 ba28 (by omega)
    replace hv := hv.gr ba28 (by omega)
    replace r4 := r4.gr ba28 (by have := r4.lt; omega)
    replace hbt := hbt.gr ba28 (by omega)
    replace hok := hok.trans (grown_kept ba28 (fun j h => by have := h.1; have := hok.size; omega) (fun j h e => by cases e; have h2 := h.1; have h3 := h.2; omega))
    have ra25 := ra30
    clear ra30
    refine ⟨hok, ?_⟩
    refine AA.done rfl ?_
    clear fzc1 fzr4 hok
    exact EE.weak (Ja17 _ _ ⟨_, rfl, (by first | assumption | omega), (by first | assumption | omega), (by first | assumption | omega), (by first | assumption | omega), (by first | assumption | omega), (by first | assumption | omega), (by first | assumption | omega), (by first | assumption | omega), (by first | assumption | omega)⟩) ⟨rfl, rfl, rfl, rfl, rfl, rfl, rfl, rfl, rfl, rfl, rfl, rfl, rfl, rfl, rfl, rfl, rfl, rfl, rfl, rfl, rfl, rfl, rfl, trivial⟩
    have la32 := r4.lt
    refine ZR.alloc ([Value.int IntKind.i64 0, Value.string { data := { toList := [] } }]) rfl rfl rfl rfl rfl rfl ?_
    intro Wa34 ga35 ega35 ra36 za37 ba33
    replace ba18 := ba18.trans (ba33.mono ba18.size)
    replace q := q.trans (ba33.mono q.size)
    replace c1 := cell_up c1 ba33
    replace hv := hv.up ba33
    replace r4 := r4.up ba33
    replace hbt := hbt.up ba33
    replace hok := hok.trans (bkept ba33 (fun j h => by have := h.1; have := hok.size; omega))
    have ya38 := hok.size
    refine ⟨hok, ?_⟩
    refine AA.one 11 (by kernel_rfl) ?_
    refine SR.val rfl (R.conv rfl rfl (run_toStr rfl rfl (by assumption))) rfl rfl hok ?_
    refine AA.pure 12 rfl hok (by kernel_rfl) (fun w' b' => R.buildV rfl rfl (v := .agg #[Value.int IntKind.i64 ↑(x % 65536), Value.string (strB (List.take k (bytesL (List.drop 1 ws))))]) (fun _ => by kernel_rfl)) rfl rfl ?_
    refine AA.one 14 (by kernel_rfl) ?_
    refine ZR.storeN (vs := [Value.int IntKind.i64 ↑(x % 65536), Value.string (strB (List.take k (bytesL (List.drop 1 ws))))]) rfl rfl rfl rfl rfl ra36 (by exact Nat.le_of_ble_eq_true rfl) (ones_of rfl) rfl rfl ?_
    intro Wa40 ra41 ba39 za42
    have hlba39 := ra36.lt
    replace ra41 : RowL Wa40 _ 23 [Value.int IntKind.i64 ↑(x % 65536), Value.string (strB (List.take k (bytesL (List.drop 1 ws))))] := ra41
    clear ra36
    replace ba33 := ba33.grown ba39 ba33.size (by rintro k ⟨⟩; omega)
    replace ba18 := ba18.grown ba39 ba18.size (by rintro k ⟨⟩; omega)
    replace q := q.grown ba39 q.size (by rintro k ⟨⟩; omega)
    replace c1 := cell_gr c1 ba39 (by omega)
    replace hv := hv.gr ba39 (by omega)
    replace r4 := r4.gr ba39 (by have := r4.lt; omega)
    replace hbt := hbt.gr ba39 (by omega)
    replace hok := hok.trans (grown_kept ba39 (fun j h => by have := h.1; have := hok.size; omega) (fun j h e => by cases e; have h2 := h.1; have h3 := h.2; omega))
    have ra36 := ra41
    clear ra41
    refine ⟨hok, ?_⟩
    refine AA.done rfl ?_
    clear fzc1 fzr4 hok
    exact EE.weak (Ja17 _ _ ⟨_, rfl, (by first | assumption | omega), (by first | assumption | omega), (by first | assumption | omega), (by first | assumption | omega), (by first | assumption | omega), (by first | assumption | omega), (by first | assumption | omega), (by first | assumption | omega), (by first | assumption | omega)⟩) ⟨rfl, rfl, rfl, rfl, rfl, rfl, rfl, rfl, rfl, rfl, rfl, rfl, rfl, rfl, rfl, rfl, rfl, rfl, rfl, rfl, rfl, rfl, rfl, trivial⟩
  refine LL.call (R.call rfl rfl rfl) rfl rfl rfl (rwords_F _ (ofN ((bytesL (ws.drop 1)).take k)) _ (by unfold ofN; rw [List.length_map, List.length_take]; omega) h) ?_
  rintro e W2 ⟨rfl, b2⟩
  refine ⟨_, rfl, ?_⟩
  replace q := q.trans (b2.mono q.size)
  replace c1 := cell_up c1 b2
  replace hv := hv.up b2
  replace r4 := r4.up b2
  replace ra8 := ra8.up b2
  have y2 := q.size
  clear b2
  refine LL.val (R.move rfl rfl) rfl rfl rfl ?_
  refine LL.val (R.extract rfl rfl rfl) rfl rfl rfl ?_
  refine LL.val (R.extract rfl rfl rfl) rfl rfl rfl ?_
  refine LL.val (R.assign rfl rfl) rfl rfl rfl ?_
  refine LL.val (R.assign rfl rfl) rfl rfl rfl ?_
  refine LL.nilS ?_
  refine CC.seq ?_
  refine CC.seq ?_
  refine CC.region ?_
  refine LL.val (R.move rfl rfl) rfl rfl rfl ?_
  refine LL.val (R.neT rfl rfl rfl (by omega)) rfl rfl rfl ?_
  refine LL.val (R.move rfl rfl) rfl rfl rfl ?_
  refine LL.skip rfl rfl ?_
  refine LL.skip rfl rfl ?_
  refine LL.skip rfl rfl ?_
  refine LL.skip rfl rfl ?_
  refine LL.val (R.pick rfl rfl rfl) rfl rfl rfl ?_
  refine LL.nilS ?_
  refine CC.yes rfl ?_
  refine CC.seq ?_
  refine CC.region ?_
  refine LL.val (R.buildV rfl rfl (v := .agg #[Value.int IntKind.i64 0, Value.string { data := #[] }]) (fun _ => by kernel_rfl)) rfl rfl rfl ?_
  refine LL.storeN (vs := [Value.int IntKind.i64 0, Value.string { data := #[] }]) rfl rfl rfl rfl r4 (by exact Nat.le_of_ble_eq_true rfl) (ones_of rfl) rfl rfl ?_
  intro Wb2 rb3 bb1 zb4
  have hlbb1 := r4.lt
  replace rb3 : RowL Wb2 _ 23 [Value.int IntKind.i64 0, Value.string { data := #[] }] := rb3
  clear r4
  replace q := q.grown bb1 q.size (by rintro k ⟨⟩; omega)
  replace c1 := cell_gr c1 bb1 (by omega)
  replace hv := hv.gr bb1 (by omega)
  replace ra8 := ra8.gr bb1 (by have := ra8.lt; omega)
  have r4 := rb3
  clear rb3
  refine LL.val (R.assign rfl rfl) rfl rfl rfl ?_
  refine LL.nilS ?_
  refine CC.ret ?_
  refine EE.thenR ?_
  refine EE.ret2 rfl ⟨_, rfl, lvNc (RowL.cells0 (by assumption)) (by rfl) (by rfl)⟩ rfl ?_
  exact ⟨rfl, q⟩
set_option maxRecDepth 100000 in
set_option maxHeartbeats 8000000 in
theorem rof_bad2 (v : Value) (ws : List Nat) (w : World) (x k : Nat) (l : Bs) (hv : Reads w v (ints .u64 ws)) (hw : ∀ y ∈ ws, y < 18446744073709551616) (hws : ws.length = 16) (hxd : wd0 ws = x) (hx : x < 16777216) (hk : x / 65536 = k) (hk2 : k ≤ 120) (hl : ofN ((bytesL (ws.drop 1)).take k) = l) (h : okR ((x % 65536 : Nat) : Int) l) (he : recW (x % 65536) l ≠ ws) : Calls Try.prog 14 #[v] w fun e w' => e = .returned (.tuple #[recV 0 [], .int .i64 250]) ∧ Below w.heap.size w w' := by
  subst hl
  have q := Below.refl w.heap.size w
  obtain ⟨a, cap, rfl, hcap, hcells⟩ := hv.intsN hws
  obtain ⟨bk, off, rfl, hbk, hc⟩ := hcells (by omega)
  have c1 : w.cell? ⟨bk, off + 0, none⟩ = some (.int .u64 (x : Int)) := by rw [← hxd]; exact hc 0 (by omega)
  have hP := hv.part (lo := 1) (hi := 16) (by omega) (by omega) (by omega)
  have hdl : (ws.drop 1).length = 15 := by simp [hws]
  rw [show ((ints .u64 ws).drop 1).take (16 - 1) = ints .u64 (ws.drop 1) by rw [List.take_of_length_le (by simp [hws])]; simp [ints]] at hP
  have hwd : ∀ y ∈ ws.drop 1, y < 18446744073709551616 := fun y hy => hw y (List.mem_of_mem_drop hy)
  clear hc hcells hxd
  refine X.fn Try.func14 rfl (n := 56) rfl rfl ?_
  refine CC.seq ?_
  refine CC.region ?_
  refine LL.alloc ([Value.int IntKind.i64 0, Value.string { data := { toList := [] } }]) rfl rfl rfl rfl rfl ?_
  intro W2 g3 eg3 r4 z5 b1
  replace q := q.trans (b1.mono q.size)
  replace hv := hv.up b1
  replace c1 := cell_up c1 b1
  replace hP := hP.up b1
  refine LL.val (R.assign rfl rfl) rfl rfl rfl ?_
  refine LL.nilS ?_
  refine CC.seq ?_
  refine CC.seq ?_
  refine CC.region ?_
  refine LL.val (R.move rfl rfl) rfl rfl rfl ?_
  refine LL.val (R.len rfl rfl rfl rfl) rfl rfl rfl ?_
  refine LL.val (R.neF rfl rfl rfl (by omega)) rfl rfl rfl ?_
  refine LL.val (R.move rfl rfl) rfl rfl rfl ?_
  refine LL.val (R.move rfl rfl) rfl rfl rfl ?_
  refine LL.val (R.index rfl rfl rfl (I.ixS1c rfl rfl (by omega))) rfl rfl rfl ?_
  refine LL.val (R.load rfl rfl (I.ld1 rfl (by assumption))) rfl rfl rfl ?_
  refine LL.val (R.geF rfl rfl rfl (by omega)) rfl rfl rfl ?_
  refine LL.val (R.pick rfl rfl rfl) rfl rfl rfl ?_
  refine LL.val (R.move rfl rfl) rfl rfl rfl ?_
  refine LL.val (R.move rfl rfl) rfl rfl rfl ?_
  refine LL.val (R.index rfl rfl rfl (I.ixS1c rfl rfl (by omega))) rfl rfl rfl ?_
  refine LL.val (R.load rfl rfl (I.ld1 rfl (by assumption))) rfl rfl rfl ?_
  refine LL.val (R.quoUE (b := 65536) (z := k) rfl rfl rfl (by decide) hk (by omega)) rfl rfl rfl ?_
  refine LL.val (R.gtF rfl rfl rfl (by omega)) rfl rfl rfl ?_
  refine LL.val (R.pick rfl rfl rfl) rfl rfl rfl ?_
  refine LL.nilS ?_
  refine CC.no rfl ?_
  refine CC.skip ?_
  refine EE.thenN ?_
  refine CC.seq ?_
  refine CC.region ?_
  refine LL.val (R.move rfl rfl) rfl rfl rfl ?_
  refine LL.val (R.slice rfl rfl rfl rfl rfl (I.slFrom (lo := 1) rfl (by omega) (by omega) (by omega))) rfl rfl rfl ?_
  refine LL.call (R.call rfl rfl rfl) rfl rfl rfl (rbytes_any _ (ws.drop 1) _ (by first | exact hP | assumption) hwd (by omega)) ?_
  rintro e W1 ⟨v', rfl, o, b1⟩
  refine ⟨_, rfl, ?_⟩
  replace q := q.trans (b1.mono q.size)
  replace c1 := cell_up c1 b1
  replace hv := hv.up b1
  replace r4 := r4.up b1
  have hown : W1.ownsRow W2.heap.size 5 1 v' 120 (ints .u8 (bytesL (ws.drop 1))) := by have := o; rw [hdl] at this; exact this
  obtain ⟨gb, cb, rfl, hgb, lgb, hcb⟩ := owns_at hown (by omega)
  have hbt := (reads_of_owns hown).take k (by omega) cb (by omega)
  rw [show (ints .u8 (bytesL (ws.drop 1))).take k = ints .u8 ((bytesL (ws.drop 1)).take k) by simp [ints]] at hbt
  have y1 := q.size
  clear o hown b1 hP
  focus
    refine LL.val (R.assign rfl rfl) rfl rfl rfl ?_
    refine LL.nilS ?_
    refine CC.seq ?_
    refine CC.join (fun l_ Wa12 => ∃ (ga7 : Nat), l_ = [(0, Value.slice (some { block := bk, off := off }) 16 cap), (2, Value.pointer (some { block := g3, off := 0 })), (3, Value.int IntKind.i64 0), (8, Value.slice (some { block := bk, off := off }) 16 cap), (9, Value.int IntKind.i64 ↑16), (10, Value.bool false), (11, Value.bool false), (12, Value.slice (some { block := bk, off := off }) 16 cap), (13, Value.pointer (some { block := bk, off := off + 0 })), (14, Value.int IntKind.u64 ↑x), (15, Value.bool false), (16, Value.bool false), (17, Value.bool false), (18, Value.slice (some { block := bk, off := off }) 16 cap), (19, Value.pointer (some { block := bk, off := off + 0 })), (20, Value.int IntKind.u64 ↑x), (21, Value.int IntKind.u64 ↑k), (22, Value.bool false), (23, Value.bool false), (25, Value.slice (some { block := bk, off := off }) 16 cap), (26, Value.slice (some { block := bk, off := off + 1 * (fun x => x.size) Try.prog.types[38] }) (16 - 1) (cap - 1)), (27, Value.slice (some { block := gb, off := 0 }) 120 cb), (5, Value.pointer (some { block := ga7, off := 0 }))] ∧ (Below W1.heap.size W1 Wa12) ∧ (Below w.heap.size w Wa12) ∧ (Wa12.cell? { block := bk, off := off + 0 } = some (Value.int IntKind.u64 ↑x)) ∧ (Reads Wa12 (Value.slice (some { block := bk, off := off }) 16 cap) (ints IntKind.u64 ws)) ∧ (RowL Wa12 g3 23 [Value.int IntKind.i64 0, Value.string { data := { toList := [] } }]) ∧ (Reads Wa12 (Value.slice (some { block := gb, off := 0 }) k cb) (ints IntKind.u8 (List.take k (bytesL (List.drop 1 ws))))) ∧ (RowL Wa12 ga7 23 [Value.int IntKind.i64 ↑(x % 65536), Value.string (strB (List.take k (bytesL (List.drop 1 ws))))]) ∧ (W1.heap.size ≤ Wa12.heap.size) ∧ (W1.heap.size ≤ ga7)) (fun Ja17 => ?_) ?restJa17
    case' restJa17 =>
      clear q
      clear c1
      clear hv
      clear r4
      clear hbt
      rintro _ Wa12 ⟨ga7, rfl, ba1, q, c1, hv, r4, hbt, ra8, za15, za16⟩
    refine EE.thenN ?_
    refine CC.seq ?_
    refine CC.region ?_
    refine LL.val (R.load rfl rfl (I.ldNc (vs := [Value.int IntKind.i64 ↑(x % 65536), Value.string (strB (List.take k (bytesL (List.drop 1 ws))))]) (RowL.cells ra8 rfl) (by rfl) (by rfl))) rfl rfl rfl ?_
    rotate_left
    refine CC.freeZ (fun W_ j => j < W_.heap.size ∧ (True)) (by kernel_rfl) (by kernel_rfl) (fun Wa19 ba18 za20 => ?_)
    replace q := q.trans (ba18.mono q.size)
    replace c1 := cell_up c1 ba18
    replace hv := hv.up ba18
    replace r4 := r4.up ba18
    replace hbt := hbt.up ba18
    have hok : Kept (fun j => j < Wa19.heap.size ∧ (True)) Wa19 Wa19 := Kept.refl _ _
    have fzc1 := fzCell (K := fun j => j < Wa19.heap.size ∧ (True)) c1 ⟨World.block_lt_of_cell? _ _ c1, (by first | trivial | omega)⟩
    have fzr4 := fzRow (K := fun j => j < Wa19.heap.size ∧ (True)) r4 ⟨r4.lt, (by first | trivial | omega)⟩
    refine AA.pure 0 rfl hok (by kernel_rfl) (fun w' b' => R.move rfl rfl) rfl rfl ?_
    refine AA.pure 1 rfl hok (by kernel_rfl) (fun w' b' => R.index rfl rfl rfl (I.ixS1c rfl rfl (by omega))) rfl rfl ?_
    refine AA.pure 2 rfl hok (by kernel_rfl) (fun w' b' => R.load rfl rfl (I.ld1 rfl (fzc1 w' b'))) rfl rfl ?_
    refine AA.pure 3 rfl hok (by kernel_rfl) (fun w' b' => R.remUE (b := 65536) (z := x % 65536) rfl rfl rfl (by decide) rfl) rfl rfl ?_
    refine AA.pure 4 rfl hok (by kernel_rfl) (fun w' b' => R.convI rfl rfl rfl rfl (wrapI (by omega) (by omega))) rfl rfl ?_
    refine AA.pure 5 rfl hok (by kernel_rfl) (fun w' b' => R.move rfl rfl) rfl rfl ?_
    refine AA.pure 6 rfl hok (by kernel_rfl) (fun w' b' => R.move rfl rfl) rfl rfl ?_
    refine AA.pure 7 rfl hok (by kernel_rfl) (fun w' b' => R.index rfl rfl rfl (I.ixS1c rfl rfl (by omega))) rfl rfl ?_
    refine AA.pure 8 rfl hok (by kernel_rfl) (fun w' b' => R.load rfl rfl (I.ld1 rfl (fzc1 w' b'))) rfl rfl ?_
    refine AA.pure 9 rfl hok (by kernel_rfl) (fun w' b' => R.quoUE (b := 65536) (z := k) rfl rfl rfl (by decide) hk (by omega)) rfl rfl ?_
    refine AA.pure 10 rfl hok (by kernel_rfl) (fun w' b' => R.slice rfl rfl rfl rfl rfl (I.slToK rfl (by omega))) rfl rfl ?_
    refine AA.two 11 13 (by kernel_rfl) ?_ ?_
    refine SR.val rfl (R.conv rfl rfl (run_toStr rfl rfl (by assumption))) rfl rfl hok ?_
    refine AA.pure 12 rfl hok (by kernel_rfl) (fun w' b' => R.buildV rfl rfl (v := .agg #[Value.int IntKind.i64 ↑(x % 65536), Value.string (strB (List.take k (bytesL (List.drop 1 ws))))]) (fun _ => by kernel_rfl)) rfl rfl ?_
    refine AA.one 13 (by kernel_rfl) ?_
    have la21 := r4.lt
    refine ZR.alloc ([Value.int IntKind.i64 0, Value.string { data := { toList := [] } }]) rfl rfl rfl rfl rfl rfl ?_
    intro Wa23 ga24 ega24 ra25 za26 ba22
    replace ba18 := ba18.trans (ba22.mono ba18.size)
    replace q := q.trans (ba22.mono q.size)
    replace c1 := cell_up c1 ba22
    replace hv := hv.up ba22
    replace r4 := r4.up ba22
    replace hbt := hbt.up ba22
    replace hok := hok.trans (bkept ba22 (fun j h => by have := h.1; have := hok.size; omega))
    have ya27 := hok.size
    refine ⟨hok, ?_⟩
    refine AA.one 14 (by kernel_rfl) ?_
    refine ZR.storeN (vs := [Value.int IntKind.i64 ↑(x % 65536), Value.string (strB (List.take k (bytesL (List.drop 1 ws))))]) rfl rfl rfl rfl rfl ra25 (by exact Nat.le_of_ble_eq_true rfl) (ones_of rfl) rfl rfl ?_
    intro Wa29 ra30 ba28 za31
    have hlba28 := ra25.lt
    replace ra30 : RowL Wa29 _ 23 [Value.int IntKind.i64 ↑(x % 65536), Value.string (strB (List.take k (bytesL (List.drop 1 ws))))] := ra30
    clear ra25
    replace ba22 := ba22.grown ba28 ba22.size (by rintro k ⟨⟩; omega)
    replace ba18 := ba18.grown ba28 ba18.size (by rintro k ⟨⟩; omega)
    replace q := q.grown ba28 q.size (by rintro k ⟨⟩; omega)
    replace c1 := cell_gr c1 ba28 (by omega)
    replace hv := hv.gr ba28 (by omega)
    replace r4 := r4.gr ba28 (by have := r4.lt; omega)
    replace hbt := hbt.gr ba28 (by omega)
    replace hok := hok.trans (grown_kept ba28 (fun j h => by have := h.1; have := hok.size; omega) (fun j h e => by cases e; have h2 := h.1; have h3 := h.2; omega))
    have ra25 := ra30
    clear ra30
    refine ⟨hok, ?_⟩
    refine AA.done rfl ?_
    clear fzc1 fzr4 hok
    exact EE.weak (Ja17 _ _ ⟨_, rfl, (by first | assumption | omega), (by first | assumption | omega), (by first | assumption | omega), (by first | assumption | omega), (by first | assumption | omega), (by first | assumption | omega), (by first | assumption | omega), (by first | assumption | omega), (by first | assumption | omega)⟩) ⟨rfl, rfl, rfl, rfl, rfl, rfl, rfl, rfl, rfl, rfl, rfl, rfl, rfl, rfl, rfl, rfl, rfl, rfl, rfl, rfl, rfl, rfl, rfl, trivial⟩
    have la32 := r4.lt
    refine ZR.alloc ([Value.int IntKind.i64 0, Value.string { data := { toList := [] } }]) rfl rfl rfl rfl rfl rfl ?_
    intro Wa34 ga35 ega35 ra36 za37 ba33
    replace ba18 := ba18.trans (ba33.mono ba18.size)
    replace q := q.trans (ba33.mono q.size)
    replace c1 := cell_up c1 ba33
    replace hv := hv.up ba33
    replace r4 := r4.up ba33
    replace hbt := hbt.up ba33
    replace hok := hok.trans (bkept ba33 (fun j h => by have := h.1; have := hok.size; omega))
    have ya38 := hok.size
    refine ⟨hok, ?_⟩
    refine AA.one 11 (by kernel_rfl) ?_
    refine SR.val rfl (R.conv rfl rfl (run_toStr rfl rfl (by assumption))) rfl rfl hok ?_
    refine AA.pure 12 rfl hok (by kernel_rfl) (fun w' b' => R.buildV rfl rfl (v := .agg #[Value.int IntKind.i64 ↑(x % 65536), Value.string (strB (List.take k (bytesL (List.drop 1 ws))))]) (fun _ => by kernel_rfl)) rfl rfl ?_
    refine AA.one 14 (by kernel_rfl) ?_
    refine ZR.storeN (vs := [Value.int IntKind.i64 ↑(x % 65536), Value.string (strB (List.take k (bytesL (List.drop 1 ws))))]) rfl rfl rfl rfl rfl ra36 (by exact Nat.le_of_ble_eq_true rfl) (ones_of rfl) rfl rfl ?_
    intro Wa40 ra41 ba39 za42
    have hlba39 := ra36.lt
    replace ra41 : RowL Wa40 _ 23 [Value.int IntKind.i64 ↑(x % 65536), Value.string (strB (List.take k (bytesL (List.drop 1 ws))))] := ra41
    clear ra36
    replace ba33 := ba33.grown ba39 ba33.size (by rintro k ⟨⟩; omega)
    replace ba18 := ba18.grown ba39 ba18.size (by rintro k ⟨⟩; omega)
    replace q := q.grown ba39 q.size (by rintro k ⟨⟩; omega)
    replace c1 := cell_gr c1 ba39 (by omega)
    replace hv := hv.gr ba39 (by omega)
    replace r4 := r4.gr ba39 (by have := r4.lt; omega)
    replace hbt := hbt.gr ba39 (by omega)
    replace hok := hok.trans (grown_kept ba39 (fun j h => by have := h.1; have := hok.size; omega) (fun j h e => by cases e; have h2 := h.1; have h3 := h.2; omega))
    have ra36 := ra41
    clear ra41
    refine ⟨hok, ?_⟩
    refine AA.done rfl ?_
    clear fzc1 fzr4 hok
    exact EE.weak (Ja17 _ _ ⟨_, rfl, (by first | assumption | omega), (by first | assumption | omega), (by first | assumption | omega), (by first | assumption | omega), (by first | assumption | omega), (by first | assumption | omega), (by first | assumption | omega), (by first | assumption | omega), (by first | assumption | omega)⟩) ⟨rfl, rfl, rfl, rfl, rfl, rfl, rfl, rfl, rfl, rfl, rfl, rfl, rfl, rfl, rfl, rfl, rfl, rfl, rfl, rfl, rfl, rfl, rfl, trivial⟩
  have hlr := recW_len (n := x % 65536) (nameN_len h.2).2
  refine LL.call (R.call rfl rfl rfl) rfl rfl rfl (rwords_T (x % 65536) (ofN ((bytesL (ws.drop 1)).take k)) _ h) ?_
  rintro e W2 ⟨v2, rfl, o2, b2⟩
  refine ⟨_, rfl, ?_⟩
  replace q := q.trans (b2.mono q.size)
  replace c1 := cell_up c1 b2
  replace hv := hv.up b2
  replace r4 := r4.up b2
  replace ra8 := ra8.up b2
  have y2 := q.size
  have hr2 := reads_of_owns o2
  clear b2 o2
  refine LL.val (R.move rfl rfl) rfl rfl rfl ?_
  refine LL.val (R.extract rfl rfl rfl) rfl rfl rfl ?_
  refine LL.val (R.extract rfl rfl rfl) rfl rfl rfl ?_
  refine LL.val (R.assign rfl rfl) rfl rfl rfl ?_
  refine LL.val (R.assign rfl rfl) rfl rfl rfl ?_
  refine LL.nilS ?_
  refine CC.seq ?_
  refine CC.seq ?_
  refine CC.region ?_
  refine LL.val (R.move rfl rfl) rfl rfl rfl ?_
  refine LL.val (R.neF rfl rfl rfl (by omega)) rfl rfl rfl ?_
  refine LL.val (R.move rfl rfl) rfl rfl rfl ?_
  refine LL.val (R.move rfl rfl) rfl rfl rfl ?_
  refine LL.val (R.move rfl rfl) rfl rfl rfl ?_
  refine LL.callBF (R.call rfl rfl rfl) rfl rfl rfl (wsame_any _ _ _ _ _ hr2 hv (by omega) (by omega)) he (fun W3 b3 => ?_)
  replace q := q.trans (b3.mono q.size)
  replace r4 := r4.up b3
  replace ra8 := ra8.up b3
  clear b3
  refine LL.val (R.not rfl rfl) rfl rfl rfl ?_
  refine LL.val (R.pick rfl rfl rfl) rfl rfl rfl ?_
  refine LL.nilS ?_
  refine CC.yes rfl ?_
  refine CC.seq ?_
  refine CC.region ?_
  refine LL.val (R.buildV rfl rfl (v := .agg #[Value.int IntKind.i64 0, Value.string { data := #[] }]) (fun _ => by kernel_rfl)) rfl rfl rfl ?_
  refine LL.storeN (vs := [Value.int IntKind.i64 0, Value.string { data := #[] }]) rfl rfl rfl rfl r4 (by exact Nat.le_of_ble_eq_true rfl) (ones_of rfl) rfl rfl ?_
  intro Wc2 rc3 bc1 zc4
  have hlbc1 := r4.lt
  replace rc3 : RowL Wc2 _ 23 [Value.int IntKind.i64 0, Value.string { data := #[] }] := rc3
  clear r4
  replace q := q.grown bc1 q.size (by rintro k ⟨⟩; omega)
  replace ra8 := ra8.gr bc1 (by have := ra8.lt; omega)
  have r4 := rc3
  clear rc3
  refine LL.val (R.assign rfl rfl) rfl rfl rfl ?_
  refine LL.nilS ?_
  refine CC.ret ?_
  refine EE.thenR ?_
  refine EE.ret2 rfl ⟨_, rfl, lvNc (RowL.cells0 (by assumption)) (by rfl) (by rfl)⟩ rfl ?_
  exact ⟨rfl, q⟩
set_option maxRecDepth 100000 in
set_option maxHeartbeats 8000000 in
theorem rof_good (v : Value) (ws : List Nat) (w : World) (x k : Nat) (l : Bs) (hv : Reads w v (ints .u64 ws)) (hw : ∀ y ∈ ws, y < 18446744073709551616) (hws : ws.length = 16) (hxd : wd0 ws = x) (hx : x < 16777216) (hk : x / 65536 = k) (hk2 : k ≤ 120) (hl : ofN ((bytesL (ws.drop 1)).take k) = l) (h : okR ((x % 65536 : Nat) : Int) l) (he : recW (x % 65536) l = ws) : Calls Try.prog 14 #[v] w fun e w' => e = .returned (.tuple #[recV ((x % 65536 : Nat) : Int) l, .int .i64 0]) ∧ Below w.heap.size w w' := by
  subst hl
  have q := Below.refl w.heap.size w
  obtain ⟨a, cap, rfl, hcap, hcells⟩ := hv.intsN hws
  obtain ⟨bk, off, rfl, hbk, hc⟩ := hcells (by omega)
  have c1 : w.cell? ⟨bk, off + 0, none⟩ = some (.int .u64 (x : Int)) := by rw [← hxd]; exact hc 0 (by omega)
  have hP := hv.part (lo := 1) (hi := 16) (by omega) (by omega) (by omega)
  have hdl : (ws.drop 1).length = 15 := by simp [hws]
  rw [show ((ints .u64 ws).drop 1).take (16 - 1) = ints .u64 (ws.drop 1) by rw [List.take_of_length_le (by simp [hws])]; simp [ints]] at hP
  have hwd : ∀ y ∈ ws.drop 1, y < 18446744073709551616 := fun y hy => hw y (List.mem_of_mem_drop hy)
  clear hc hcells hxd
  refine X.fn Try.func14 rfl (n := 56) rfl rfl ?_
  refine CC.seq ?_
  refine CC.region ?_
  refine LL.alloc ([Value.int IntKind.i64 0, Value.string { data := { toList := [] } }]) rfl rfl rfl rfl rfl ?_
  intro W2 g3 eg3 r4 z5 b1
  replace q := q.trans (b1.mono q.size)
  replace hv := hv.up b1
  replace c1 := cell_up c1 b1
  replace hP := hP.up b1
  refine LL.val (R.assign rfl rfl) rfl rfl rfl ?_
  refine LL.nilS ?_
  refine CC.seq ?_
  refine CC.seq ?_
  refine CC.region ?_
  refine LL.val (R.move rfl rfl) rfl rfl rfl ?_
  refine LL.val (R.len rfl rfl rfl rfl) rfl rfl rfl ?_
  refine LL.val (R.neF rfl rfl rfl (by omega)) rfl rfl rfl ?_
  refine LL.val (R.move rfl rfl) rfl rfl rfl ?_
  refine LL.val (R.move rfl rfl) rfl rfl rfl ?_
  refine LL.val (R.index rfl rfl rfl (I.ixS1c rfl rfl (by omega))) rfl rfl rfl ?_
  refine LL.val (R.load rfl rfl (I.ld1 rfl (by assumption))) rfl rfl rfl ?_
  refine LL.val (R.geF rfl rfl rfl (by omega)) rfl rfl rfl ?_
  refine LL.val (R.pick rfl rfl rfl) rfl rfl rfl ?_
  refine LL.val (R.move rfl rfl) rfl rfl rfl ?_
  refine LL.val (R.move rfl rfl) rfl rfl rfl ?_
  refine LL.val (R.index rfl rfl rfl (I.ixS1c rfl rfl (by omega))) rfl rfl rfl ?_
  refine LL.val (R.load rfl rfl (I.ld1 rfl (by assumption))) rfl rfl rfl ?_
  refine LL.val (R.quoUE (b := 65536) (z := k) rfl rfl rfl (by decide) hk (by omega)) rfl rfl rfl ?_
  refine LL.val (R.gtF rfl rfl rfl (by omega)) rfl rfl rfl ?_
  refine LL.val (R.pick rfl rfl rfl) rfl rfl rfl ?_
  refine LL.nilS ?_
  refine CC.no rfl ?_
  refine CC.skip ?_
  refine EE.thenN ?_
  refine CC.seq ?_
  refine CC.region ?_
  refine LL.val (R.move rfl rfl) rfl rfl rfl ?_
  refine LL.val (R.slice rfl rfl rfl rfl rfl (I.slFrom (lo := 1) rfl (by omega) (by omega) (by omega))) rfl rfl rfl ?_
  refine LL.call (R.call rfl rfl rfl) rfl rfl rfl (rbytes_any _ (ws.drop 1) _ (by first | exact hP | assumption) hwd (by omega)) ?_
  rintro e W1 ⟨v', rfl, o, b1⟩
  refine ⟨_, rfl, ?_⟩
  replace q := q.trans (b1.mono q.size)
  replace c1 := cell_up c1 b1
  replace hv := hv.up b1
  replace r4 := r4.up b1
  have hown : W1.ownsRow W2.heap.size 5 1 v' 120 (ints .u8 (bytesL (ws.drop 1))) := by have := o; rw [hdl] at this; exact this
  obtain ⟨gb, cb, rfl, hgb, lgb, hcb⟩ := owns_at hown (by omega)
  have hbt := (reads_of_owns hown).take k (by omega) cb (by omega)
  rw [show (ints .u8 (bytesL (ws.drop 1))).take k = ints .u8 ((bytesL (ws.drop 1)).take k) by simp [ints]] at hbt
  have y1 := q.size
  clear o hown b1 hP
  focus
    refine LL.val (R.assign rfl rfl) rfl rfl rfl ?_
    refine LL.nilS ?_
    refine CC.seq ?_
    refine CC.join (fun l_ Wa12 => ∃ (ga7 : Nat), l_ = [(0, Value.slice (some { block := bk, off := off }) 16 cap), (2, Value.pointer (some { block := g3, off := 0 })), (3, Value.int IntKind.i64 0), (8, Value.slice (some { block := bk, off := off }) 16 cap), (9, Value.int IntKind.i64 ↑16), (10, Value.bool false), (11, Value.bool false), (12, Value.slice (some { block := bk, off := off }) 16 cap), (13, Value.pointer (some { block := bk, off := off + 0 })), (14, Value.int IntKind.u64 ↑x), (15, Value.bool false), (16, Value.bool false), (17, Value.bool false), (18, Value.slice (some { block := bk, off := off }) 16 cap), (19, Value.pointer (some { block := bk, off := off + 0 })), (20, Value.int IntKind.u64 ↑x), (21, Value.int IntKind.u64 ↑k), (22, Value.bool false), (23, Value.bool false), (25, Value.slice (some { block := bk, off := off }) 16 cap), (26, Value.slice (some { block := bk, off := off + 1 * (fun x => x.size) Try.prog.types[38] }) (16 - 1) (cap - 1)), (27, Value.slice (some { block := gb, off := 0 }) 120 cb), (5, Value.pointer (some { block := ga7, off := 0 }))] ∧ (Below W1.heap.size W1 Wa12) ∧ (Below w.heap.size w Wa12) ∧ (Wa12.cell? { block := bk, off := off + 0 } = some (Value.int IntKind.u64 ↑x)) ∧ (Reads Wa12 (Value.slice (some { block := bk, off := off }) 16 cap) (ints IntKind.u64 ws)) ∧ (RowL Wa12 g3 23 [Value.int IntKind.i64 0, Value.string { data := { toList := [] } }]) ∧ (Reads Wa12 (Value.slice (some { block := gb, off := 0 }) k cb) (ints IntKind.u8 (List.take k (bytesL (List.drop 1 ws))))) ∧ (RowL Wa12 ga7 23 [Value.int IntKind.i64 ↑(x % 65536), Value.string (strB (List.take k (bytesL (List.drop 1 ws))))]) ∧ (W1.heap.size ≤ Wa12.heap.size) ∧ (W1.heap.size ≤ ga7)) (fun Ja17 => ?_) ?restJa17
    case' restJa17 =>
      clear q
      clear c1
      clear hv
      clear r4
      clear hbt
      rintro _ Wa12 ⟨ga7, rfl, ba1, q, c1, hv, r4, hbt, ra8, za15, za16⟩
    refine EE.thenN ?_
    refine CC.seq ?_
    refine CC.region ?_
    refine LL.val (R.load rfl rfl (I.ldNc (vs := [Value.int IntKind.i64 ↑(x % 65536), Value.string (strB (List.take k (bytesL (List.drop 1 ws))))]) (RowL.cells ra8 rfl) (by rfl) (by rfl))) rfl rfl rfl ?_
    rotate_left
    refine CC.freeZ (fun W_ j => j < W_.heap.size ∧ (True)) (by kernel_rfl) (by kernel_rfl) (fun Wa19 ba18 za20 => ?_)
    replace q := q.trans (ba18.mono q.size)
    replace c1 := cell_up c1 ba18
    replace hv := hv.up ba18
    replace r4 := r4.up ba18
    replace hbt := hbt.up ba18
    have hok : Kept (fun j => j < Wa19.heap.size ∧ (True)) Wa19 Wa19 := Kept.refl _ _
    have fzc1 := fzCell (K := fun j => j < Wa19.heap.size ∧ (True)) c1 ⟨World.block_lt_of_cell? _ _ c1, (by first | trivial | omega)⟩
    have fzr4 := fzRow (K := fun j => j < Wa19.heap.size ∧ (True)) r4 ⟨r4.lt, (by first | trivial | omega)⟩
    refine AA.pure 0 rfl hok (by kernel_rfl) (fun w' b' => R.move rfl rfl) rfl rfl ?_
    refine AA.pure 1 rfl hok (by kernel_rfl) (fun w' b' => R.index rfl rfl rfl (I.ixS1c rfl rfl (by omega))) rfl rfl ?_
    refine AA.pure 2 rfl hok (by kernel_rfl) (fun w' b' => R.load rfl rfl (I.ld1 rfl (fzc1 w' b'))) rfl rfl ?_
    refine AA.pure 3 rfl hok (by kernel_rfl) (fun w' b' => R.remUE (b := 65536) (z := x % 65536) rfl rfl rfl (by decide) rfl) rfl rfl ?_
    refine AA.pure 4 rfl hok (by kernel_rfl) (fun w' b' => R.convI rfl rfl rfl rfl (wrapI (by omega) (by omega))) rfl rfl ?_
    refine AA.pure 5 rfl hok (by kernel_rfl) (fun w' b' => R.move rfl rfl) rfl rfl ?_
    refine AA.pure 6 rfl hok (by kernel_rfl) (fun w' b' => R.move rfl rfl) rfl rfl ?_
    refine AA.pure 7 rfl hok (by kernel_rfl) (fun w' b' => R.index rfl rfl rfl (I.ixS1c rfl rfl (by omega))) rfl rfl ?_
    refine AA.pure 8 rfl hok (by kernel_rfl) (fun w' b' => R.load rfl rfl (I.ld1 rfl (fzc1 w' b'))) rfl rfl ?_
    refine AA.pure 9 rfl hok (by kernel_rfl) (fun w' b' => R.quoUE (b := 65536) (z := k) rfl rfl rfl (by decide) hk (by omega)) rfl rfl ?_
    refine AA.pure 10 rfl hok (by kernel_rfl) (fun w' b' => R.slice rfl rfl rfl rfl rfl (I.slToK rfl (by omega))) rfl rfl ?_
    refine AA.two 11 13 (by kernel_rfl) ?_ ?_
    refine SR.val rfl (R.conv rfl rfl (run_toStr rfl rfl (by assumption))) rfl rfl hok ?_
    refine AA.pure 12 rfl hok (by kernel_rfl) (fun w' b' => R.buildV rfl rfl (v := .agg #[Value.int IntKind.i64 ↑(x % 65536), Value.string (strB (List.take k (bytesL (List.drop 1 ws))))]) (fun _ => by kernel_rfl)) rfl rfl ?_
    refine AA.one 13 (by kernel_rfl) ?_
    have la21 := r4.lt
    refine ZR.alloc ([Value.int IntKind.i64 0, Value.string { data := { toList := [] } }]) rfl rfl rfl rfl rfl rfl ?_
    intro Wa23 ga24 ega24 ra25 za26 ba22
    replace ba18 := ba18.trans (ba22.mono ba18.size)
    replace q := q.trans (ba22.mono q.size)
    replace c1 := cell_up c1 ba22
    replace hv := hv.up ba22
    replace r4 := r4.up ba22
    replace hbt := hbt.up ba22
    replace hok := hok.trans (bkept ba22 (fun j h => by have := h.1; have := hok.size; omega))
    have ya27 := hok.size
    refine ⟨hok, ?_⟩
    refine AA.one 14 (by kernel_rfl) ?_
    refine ZR.storeN (vs := [Value.int IntKind.i64 ↑(x % 65536), Value.string (strB (List.take k (bytesL (List.drop 1 ws))))]) rfl rfl rfl rfl rfl ra25 (by exact Nat.le_of_ble_eq_true rfl) (ones_of rfl) rfl rfl ?_
    intro Wa29 ra30 ba28 za31
    have hlba28 := ra25.lt
    replace ra30 : RowL Wa29 _ 23 [Value.int IntKind.i64 ↑(x % 65536), Value.string (strB (List.take k (bytesL (List.drop 1 ws))))] := ra30
    clear ra25
    replace ba22 := ba22.grown ba28 ba22.size (by rintro k ⟨⟩; omega)
    replace ba18 := ba18.grown ba28 ba18.size (by rintro k ⟨⟩; omega)
    replace q := q.grown ba28 q.size (by rintro k ⟨⟩; omega)
    replace c1 := cell_gr c1 ba28 (by omega)
    replace hv := hv.gr ba28 (by omega)
    replace r4 := r4.gr ba28 (by have := r4.lt; omega)
    replace hbt := hbt.gr ba28 (by omega)
    replace hok := hok.trans (grown_kept ba28 (fun j h => by have := h.1; have := hok.size; omega) (fun j h e => by cases e; have h2 := h.1; have h3 := h.2; omega))
    have ra25 := ra30
    clear ra30
    refine ⟨hok, ?_⟩
    refine AA.done rfl ?_
    clear fzc1 fzr4 hok
    exact EE.weak (Ja17 _ _ ⟨_, rfl, (by first | assumption | omega), (by first | assumption | omega), (by first | assumption | omega), (by first | assumption | omega), (by first | assumption | omega), (by first | assumption | omega), (by first | assumption | omega), (by first | assumption | omega), (by first | assumption | omega)⟩) ⟨rfl, rfl, rfl, rfl, rfl, rfl, rfl, rfl, rfl, rfl, rfl, rfl, rfl, rfl, rfl, rfl, rfl, rfl, rfl, rfl, rfl, rfl, rfl, trivial⟩
    have la32 := r4.lt
    refine ZR.alloc ([Value.int IntKind.i64 0, Value.string { data := { toList := [] } }]) rfl rfl rfl rfl rfl rfl ?_
    intro Wa34 ga35 ega35 ra36 za37 ba33
    replace ba18 := ba18.trans (ba33.mono ba18.size)
    replace q := q.trans (ba33.mono q.size)
    replace c1 := cell_up c1 ba33
    replace hv := hv.up ba33
    replace r4 := r4.up ba33
    replace hbt := hbt.up ba33
    replace hok := hok.trans (bkept ba33 (fun j h => by have := h.1; have := hok.size; omega))
    have ya38 := hok.size
    refine ⟨hok, ?_⟩
    refine AA.one 11 (by kernel_rfl) ?_
    refine SR.val rfl (R.conv rfl rfl (run_toStr rfl rfl (by assumption))) rfl rfl hok ?_
    refine AA.pure 12 rfl hok (by kernel_rfl) (fun w' b' => R.buildV rfl rfl (v := .agg #[Value.int IntKind.i64 ↑(x % 65536), Value.string (strB (List.take k (bytesL (List.drop 1 ws))))]) (fun _ => by kernel_rfl)) rfl rfl ?_
    refine AA.one 14 (by kernel_rfl) ?_
    refine ZR.storeN (vs := [Value.int IntKind.i64 ↑(x % 65536), Value.string (strB (List.take k (bytesL (List.drop 1 ws))))]) rfl rfl rfl rfl rfl ra36 (by exact Nat.le_of_ble_eq_true rfl) (ones_of rfl) rfl rfl ?_
    intro Wa40 ra41 ba39 za42
    have hlba39 := ra36.lt
    replace ra41 : RowL Wa40 _ 23 [Value.int IntKind.i64 ↑(x % 65536), Value.string (strB (List.take k (bytesL (List.drop 1 ws))))] := ra41
    clear ra36
    replace ba33 := ba33.grown ba39 ba33.size (by rintro k ⟨⟩; omega)
    replace ba18 := ba18.grown ba39 ba18.size (by rintro k ⟨⟩; omega)
    replace q := q.grown ba39 q.size (by rintro k ⟨⟩; omega)
    replace c1 := cell_gr c1 ba39 (by omega)
    replace hv := hv.gr ba39 (by omega)
    replace r4 := r4.gr ba39 (by have := r4.lt; omega)
    replace hbt := hbt.gr ba39 (by omega)
    replace hok := hok.trans (grown_kept ba39 (fun j h => by have := h.1; have := hok.size; omega) (fun j h e => by cases e; have h2 := h.1; have h3 := h.2; omega))
    have ra36 := ra41
    clear ra41
    refine ⟨hok, ?_⟩
    refine AA.done rfl ?_
    clear fzc1 fzr4 hok
    exact EE.weak (Ja17 _ _ ⟨_, rfl, (by first | assumption | omega), (by first | assumption | omega), (by first | assumption | omega), (by first | assumption | omega), (by first | assumption | omega), (by first | assumption | omega), (by first | assumption | omega), (by first | assumption | omega), (by first | assumption | omega)⟩) ⟨rfl, rfl, rfl, rfl, rfl, rfl, rfl, rfl, rfl, rfl, rfl, rfl, rfl, rfl, rfl, rfl, rfl, rfl, rfl, rfl, rfl, rfl, rfl, trivial⟩
  have hlr := recW_len (n := x % 65536) (nameN_len h.2).2
  refine LL.call (R.call rfl rfl rfl) rfl rfl rfl (rwords_T (x % 65536) (ofN ((bytesL (ws.drop 1)).take k)) _ h) ?_
  rintro e W2 ⟨v2, rfl, o2, b2⟩
  refine ⟨_, rfl, ?_⟩
  replace q := q.trans (b2.mono q.size)
  replace c1 := cell_up c1 b2
  replace hv := hv.up b2
  replace r4 := r4.up b2
  replace ra8 := ra8.up b2
  have y2 := q.size
  have hr2 := reads_of_owns o2
  clear b2 o2
  refine LL.val (R.move rfl rfl) rfl rfl rfl ?_
  refine LL.val (R.extract rfl rfl rfl) rfl rfl rfl ?_
  refine LL.val (R.extract rfl rfl rfl) rfl rfl rfl ?_
  refine LL.val (R.assign rfl rfl) rfl rfl rfl ?_
  refine LL.val (R.assign rfl rfl) rfl rfl rfl ?_
  refine LL.nilS ?_
  refine CC.seq ?_
  refine CC.seq ?_
  refine CC.region ?_
  refine LL.val (R.move rfl rfl) rfl rfl rfl ?_
  refine LL.val (R.neF rfl rfl rfl (by omega)) rfl rfl rfl ?_
  refine LL.val (R.move rfl rfl) rfl rfl rfl ?_
  refine LL.val (R.move rfl rfl) rfl rfl rfl ?_
  refine LL.val (R.move rfl rfl) rfl rfl rfl ?_
  refine LL.callBT (R.call rfl rfl rfl) rfl rfl rfl (wsame_any _ _ _ _ _ hr2 hv (by omega) (by omega)) he (fun W3 b3 => ?_)
  replace q := q.trans (b3.mono q.size)
  replace r4 := r4.up b3
  replace ra8 := ra8.up b3
  clear b3
  refine LL.val (R.not rfl rfl) rfl rfl rfl ?_
  refine LL.val (R.pick rfl rfl rfl) rfl rfl rfl ?_
  refine LL.nilS ?_
  refine CC.no rfl ?_
  refine CC.skip ?_
  refine EE.thenN ?_
  refine CC.seq ?_
  refine CC.region ?_
  refine LL.val (R.load rfl rfl (I.ldNc (vs := [Value.int IntKind.i64 ↑(x % 65536), Value.string (strB (List.take k (bytesL (List.drop 1 ws))))]) (RowL.cells ra8 rfl) (by rfl) (by rfl))) rfl rfl rfl ?_
  refine LL.storeN (vs := [Value.int IntKind.i64 ↑(x % 65536), Value.string (strB (List.take k (bytesL (List.drop 1 ws))))]) rfl rfl rfl rfl r4 (by exact Nat.le_of_ble_eq_true rfl) (ones_of rfl) rfl rfl ?_
  intro Wc2 rc3 bc1 zc4
  have hlbc1 := r4.lt
  replace rc3 : RowL Wc2 _ 23 [Value.int IntKind.i64 ↑(x % 65536), Value.string (strB (List.take k (bytesL (List.drop 1 ws))))] := rc3
  clear r4
  replace q := q.grown bc1 q.size (by rintro k ⟨⟩; omega)
  replace ra8 := ra8.gr bc1 (by have := ra8.lt; omega)
  have r4 := rc3
  clear rc3
  refine LL.val (R.assign rfl rfl) rfl rfl rfl ?_
  refine LL.nilS ?_
  refine CC.ret ?_
  refine EE.ret2 rfl ⟨_, rfl, lvNc (RowL.cells0 (by assumption)) (by rfl) (by rfl)⟩ rfl ?_
  exact ⟨rfl, q⟩
theorem rof_F (v : Value) (ws : List Nat) (w : World) (hv : Reads w v (ints .u64 ws)) (hw : ∀ x ∈ ws, x < 18446744073709551616) (hlen : ws.length ≤ 1048576) (h : noRec ws) : Calls Try.prog 14 #[v] w fun e w' => e = .returned (.tuple #[recV 0 [], .int .i64 250]) ∧ Below w.heap.size w w' := by
  by_cases hws : ws.length = 16
  case neg => exact rof_16 v ws w hv hws hlen
  have hx : wd0 ws < 18446744073709551616 := by
    unfold wd0
    rw [List.getElem?_eq_getElem (by omega)]
    exact hw _ (List.getElem_mem _)
  by_cases hb : 16777216 ≤ wd0 ws ∨ 120 < wd0 ws / 65536
  · exact rof_big v ws w _ hv hws rfl hx hb
  by_cases ho : okR ((wd0 ws % 65536 : Nat) : Int) (ofN ((bytesL (ws.drop 1)).take (wd0 ws / 65536)))
  · exact rof_bad2 v ws w _ _ _ hv hw hws rfl (by omega) rfl (by omega) rfl ho (h _ _ ho)
  · exact rof_bad1 v ws w _ _ _ hv hw hws rfl (by omega) rfl (by omega) rfl ho
theorem recW_lt {n : Nat} {l : Bs} (h : okR n l) : ∀ x ∈ recW n l, x < 18446744073709551616 := by
  have hl := nameN_len h.2
  intro x hx
  unfold recW padL at hx
  rcases List.mem_append.1 hx with hx | hx
  · rcases List.mem_cons.1 hx with rfl | hx
    · unfold headR; omega
    · exact lay_small (nbL l) (nbL_lt l) x hx
  · have := (List.mem_replicate.1 hx).2
    omega
theorem rof_T (v : Value) (ws : List Nat) (n : Nat) (l : Bs) (w : World) (hv : Reads w v (ints .u64 ws)) (ho : okR n l) (he : ws = recW n l) : Calls Try.prog 14 #[v] w fun e w' => e = .returned (.tuple #[recV n l, .int .i64 0]) ∧ Below w.heap.size w w' := by
  have hl := nameN_len ho.2
  have hws : ws.length = 16 := by rw [he]; exact recW_len hl.2
  have hw : ∀ x ∈ ws, x < 18446744073709551616 := by rw [he]; exact recW_lt ho
  have hd : wd0 ws = headR n l := by rw [he]; exact recW_head n l
  have f2 : wd0 ws % 65536 = n := by rw [hd]; unfold headR; omega
  have f3 : wd0 ws / 65536 = l.length := by rw [hd]; unfold headR; omega
  have f4 : ofN ((bytesL (ws.drop 1)).take l.length) = l := by rw [he]; exact recW_bytes hl
  have hb : wd0 ws < 16777216 := by rw [hd]; unfold headR; omega
  have := rof_good v ws w (wd0 ws) l.length l hv hw hws rfl hb f3 hl.2 f4 (by rw [f2]; exact ho) (by rw [f2]; exact he.symm)
  rw [f2] at this
  exact this
end Go.Proofs.Ytefepklacchghaa
