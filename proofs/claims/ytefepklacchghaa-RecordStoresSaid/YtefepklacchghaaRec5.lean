/- record: Split; the statements' rows. -/
import Derived.Test.YtefepklacchghaaRec4
namespace Go.Proofs.Ytefepklacchghaa
set_option linter.unusedVariables false
set_option linter.unusedSimpArgs false
open Go.RowKit Go.Shelf
section
variable {P : Program} {w : World} {t u : TypeId} {o : Oper} {x y : Operand} {n : Nat} {D : List Deferred} {M : Slots}
/-- A shift to the right. -/
theorem R.shrE {a b z : Nat} {k2 : IntKind} (ho : o.op = .binOp .shr t x y u) (hx : evM M x = some (.int .u64 (a : Int))) (hy : evM M y = some (.int k2 (b : Int))) (hb : b < 64) (hz : a / 2 ^ b = z) (hl : a < 18446744073709551616) : Runs P n D M o w (.value (.int .u64 (z : Int))) w := R.bin ho hx hy (by
  subst hz
  have h1 : ¬ ((b : Int) < 0) := by omega
  have h2 : Nat.min b 64 = b := Nat.min_eq_left (by omega)
  have h3 : a / 2 ^ b < 18446744073709551616 := Nat.lt_of_le_of_lt (Nat.div_le_self _ _) hl
  have h5 : ((a : Int) / (2 : Int) ^ b) = ((a / 2 ^ b : Nat) : Int) := by simp
  have h4 : IntKind.u64.wrap ((a : Int) / (2 : Int) ^ b) = (a : Int) / (2 : Int) ^ b := by
    rw [h5]
    obtain ⟨q, hq⟩ : ∃ q : Nat, a / 2 ^ b = q := ⟨_, rfl⟩
    rw [hq] at h3 ⊢
    exact IntWalk.u64_in _ (by omega)
  simp [eqGuard, binOp, Op.shift, h1, IntKind.bits, h2, h4])
theorem R.andE {a b z : Nat} (ho : o.op = .binOp .and t x y u) (hx : evM M x = some (.int .u64 (a : Int))) (hy : evM M y = some (.int .u64 (b : Int))) (ha : a < 18446744073709551616) (hb : b < 18446744073709551616) (hz : a &&& b = z) : Runs P n D M o w (.value (.int .u64 (z : Int))) w := by
  subst hz
  exact R.andU ho hx hy ha hb
end
theorem and_low (k : Nat) : k &&& 65535 = k % 65536 := Nat.and_two_pow_sub_one_eq_mod k 16
set_option maxRecDepth 100000 in
set_option maxHeartbeats 4000000 in
theorem split_any (k : Nat) (hk : k < 18446744073709551616) (w : World) : Calls Try.prog 18 #[.int .u64 (k : Int)] w fun e w' => e = .returned (.tuple #[.int .u64 ((k / 65536 : Nat) : Int), .int .i64 ((k % 65536 : Nat) : Int)]) ∧ w = w' := by
  refine X.fn Try.func18 rfl (n := 9) rfl rfl ?_
  refine CC.seq ?_
  refine CC.region ?_
  refine LL.val (R.assign rfl rfl) rfl rfl rfl ?_
  refine LL.val (R.assign rfl rfl) rfl rfl rfl ?_
  refine LL.nilS ?_
  refine CC.seq ?_
  refine CC.region ?_
  refine LL.val (R.move rfl rfl) rfl rfl rfl ?_
  refine LL.val (R.shrE (b := 16) (z := k / 65536) rfl rfl rfl (by decide) rfl hk) rfl rfl rfl ?_
  refine LL.val (R.move rfl rfl) rfl rfl rfl ?_
  refine LL.val (R.andE (b := 65535) (z := k % 65536) rfl rfl rfl hk (by decide) (and_low k)) rfl rfl rfl ?_
  refine LL.val (R.convI rfl rfl rfl rfl (wrapI (by omega) (by omega))) rfl rfl rfl ?_
  refine LL.val (R.assign rfl rfl) rfl rfl rfl ?_
  refine LL.val (R.assign rfl rfl) rfl rfl rfl ?_
  refine LL.nilS ?_
  refine CC.ret ?_
  refine EE.ret _ rfl rfl ?_
  exact ⟨rfl, rfl⟩
--C record_Split | split_w @w | S
theorem split_w (w : World) : Calls Try.prog 18 #[.int .u64 131075] w fun e w' => e = .returned (.tuple #[.int .u64 2, .int .i64 3]) ∧ w = w' := split_any 131075 (by decide) w
set_option maxRecDepth 100000 in
theorem num_any (a : Int) (w : World) : Calls Try.prog 9 #[.int .i64 a] w fun e w' => e = .returned (.int .i64 a) ∧ w = w' := by
  refine X.fn Try.func9 rfl (n := 4) rfl rfl ?_
  refine CC.seq ?_
  refine CC.region ?_
  refine LL.val (R.assign rfl rfl) rfl rfl rfl ?_
  refine LL.nilS ?_
  refine CC.seq ?_
  refine CC.region ?_
  refine LL.val (R.move rfl rfl) rfl rfl rfl ?_
  refine LL.val (R.assign rfl rfl) rfl rfl rfl ?_
  refine LL.nilS ?_
  refine CC.ret ?_
  refine EE.ret _ rfl rfl ?_
  exact ⟨rfl, rfl⟩
theorem ab_ok : okR ((5 : Nat) : Int) [97, 98] := by decide +kernel
theorem ab_0 : (recW 5 [97, 98])[0]?.getD 0 = 131077 := by decide +kernel
theorem ab_1 : (recW 5 [97, 98])[1]?.getD 0 = 25185 := by decide +kernel
set_option maxRecDepth 100000 in
set_option maxHeartbeats 8000000 in
theorem works_any (w : World) : Calls Try.prog 6 #[] w fun x w' => x = .returned (.bool true) ∧ Below w.heap.size w w' := by
  have q := Below.refl w.heap.size w
  refine X.fn Try.func6 rfl (n := 54) rfl rfl ?_
  refine CC.seq ?_
  refine CC.region ?_
  refine LL.val (R.assign rfl rfl) rfl rfl rfl ?_
  refine LL.nilS ?_
  refine CC.seq ?_
  refine CC.region ?_
  refine LL.val (R.buildV rfl rfl (v := .agg #[Value.int IntKind.i64 5, Value.string { data := #[97, 98] }]) (fun _ => by kernel_rfl)) rfl rfl rfl ?_
  refine LL.call (R.call rfl rfl rfl) rfl rfl rfl (words_T 5 [97, 98] _ ab_ok) ?_
  rintro e W1 ⟨v, rfl, o, b1⟩
  refine ⟨_, rfl, ?_⟩
  replace q := q.trans (b1.mono q.size)
  have y1 := q.size
  have hv := reads_of_owns o
  obtain ⟨a, cap, rfl, hcap, hcells⟩ := hv.intsN (recW_len (n := 5) (l := [97, 98]) (by decide))
  obtain ⟨bk, off, rfl, hbk, hc⟩ := hcells (by omega)
  have c1 : W1.cell? ⟨bk, off + 0, none⟩ = some (.int .u64 131077) := by rw [hc 0 (by omega), ab_0]; rfl
  have c2 : W1.cell? ⟨bk, off + 1, none⟩ = some (.int .u64 25185) := by rw [hc 1 (by omega), ab_1]; rfl
  clear hv hcells hc o b1
  refine LL.val (R.move rfl rfl) rfl rfl rfl ?_
  refine LL.val (R.extract rfl rfl rfl) rfl rfl rfl ?_
  refine LL.val (R.extract rfl rfl rfl) rfl rfl rfl ?_
  refine LL.val (R.assign rfl rfl) rfl rfl rfl ?_
  refine LL.val (R.assign rfl rfl) rfl rfl rfl ?_
  refine LL.nilS ?_
  refine CC.seq ?_
  refine CC.region ?_
  refine LL.make (l := 16) (m := 16) El64 rfl rfl rfl (by omega) (by omega) (by omega) rfl rfl ?_
  intro W2 g2 eg2 r2 z2 b2
  replace q := q.trans (b2.mono q.size)
  replace c1 := cell_up c1 b2
  replace c2 := cell_up c2 b2
  clear b2
  skip
  refine LL.call (R.call rfl rfl rfl) rfl rfl rfl (of_F1 _ (List.replicate 16 0) _ 0 (RowL.asInts r2 .u64 (List.replicate 16 0) rfl rfl) rfl rfl (by decide) rfl) ?_
  rintro e W3 ⟨rfl, b3⟩
  refine ⟨_, rfl, ?_⟩
  replace q := q.trans (b3.mono q.size)
  replace c1 := cell_up c1 b3
  replace c2 := cell_up c2 b3
  have y3 := b3.size
  clear b3 r2
  refine LL.val (R.move rfl rfl) rfl rfl rfl ?_
  refine LL.val (R.extract rfl rfl rfl) rfl rfl rfl ?_
  refine LL.val (R.extract rfl rfl rfl) rfl rfl rfl ?_
  refine LL.alloc ([Value.int IntKind.i64 0, Value.string { data := { toList := [] } }]) rfl rfl rfl rfl rfl ?_
  intro Wc2 gc3 egc3 rc4 zc5 bc1
  replace q := q.trans (bc1.mono q.size)
  replace c1 := cell_up c1 bc1
  replace c2 := cell_up c2 bc1
  refine LL.storeN (vs := [Value.int IntKind.i64 0, strV []]) rfl rfl rfl rfl rc4 (by exact Nat.le_of_ble_eq_true rfl) (ones_of rfl) rfl rfl ?_
  intro Wc7 rc8 bc6 zc9
  have hlbc6 := rc4.lt
  replace rc8 : RowL Wc7 _ 23 [Value.int IntKind.i64 0, strV []] := rc8
  clear rc4
  replace bc1 := bc1.grown bc6 bc1.size (by rintro k ⟨⟩; omega)
  replace q := q.grown bc6 q.size (by rintro k ⟨⟩; omega)
  replace c1 := cell_gr c1 bc6 (by omega)
  replace c2 := cell_gr c2 bc6 (by omega)
  have rc4 := rc8
  clear rc8
  refine LL.val (R.assign rfl rfl) rfl rfl rfl ?_
  refine LL.nilS ?_
  refine CC.seq ?_
  refine CC.region ?_
  refine LL.call (R.call rfl rfl rfl) rfl rfl rfl (split_w _) ?_
  rintro e W' ⟨rfl, rfl⟩
  refine ⟨_, rfl, ?_⟩
  refine LL.val (R.move rfl rfl) rfl rfl rfl ?_
  refine LL.val (R.extract rfl rfl rfl) rfl rfl rfl ?_
  refine LL.val (R.extract rfl rfl rfl) rfl rfl rfl ?_
  refine LL.val (R.assign rfl rfl) rfl rfl rfl ?_
  refine LL.val (R.assign rfl rfl) rfl rfl rfl ?_
  refine LL.nilS ?_
  refine CC.seq ?_
  refine CC.region ?_
  refine LL.val (R.move rfl rfl) rfl rfl rfl ?_
  refine LL.call (R.call rfl rfl rfl) rfl rfl rfl (num_any _ _) ?_
  rintro e W' ⟨rfl, rfl⟩
  refine ⟨_, rfl, ?_⟩
  refine LL.val (R.eqT rfl rfl rfl (by omega)) rfl rfl rfl ?_
  refine LL.val (R.move rfl rfl) rfl rfl rfl ?_
  refine LL.val (R.move rfl rfl) rfl rfl rfl ?_
  refine LL.val (R.len rfl rfl rfl rfl) rfl rfl rfl ?_
  refine LL.val (R.eqT rfl rfl rfl (by omega)) rfl rfl rfl ?_
  refine LL.val (R.pick rfl rfl rfl) rfl rfl rfl ?_
  refine LL.val (R.move rfl rfl) rfl rfl rfl ?_
  refine LL.val (R.move rfl rfl) rfl rfl rfl ?_
  refine LL.val (R.index rfl rfl rfl (I.ixS1c rfl rfl (by omega))) rfl rfl rfl ?_
  refine LL.val (R.load rfl rfl (I.ld1 rfl (by assumption))) rfl rfl rfl ?_
  refine LL.val (R.eqT rfl rfl rfl (by omega)) rfl rfl rfl ?_
  refine LL.val (R.pick rfl rfl rfl) rfl rfl rfl ?_
  refine LL.val (R.move rfl rfl) rfl rfl rfl ?_
  refine LL.val (R.move rfl rfl) rfl rfl rfl ?_
  refine LL.val (R.index rfl rfl rfl (I.ixS1c rfl rfl (by omega))) rfl rfl rfl ?_
  refine LL.val (R.load rfl rfl (I.ld1 rfl (by assumption))) rfl rfl rfl ?_
  refine LL.val (R.eqT rfl rfl rfl (by omega)) rfl rfl rfl ?_
  refine LL.val (R.pick rfl rfl rfl) rfl rfl rfl ?_
  refine LL.val (R.move rfl rfl) rfl rfl rfl ?_
  refine LL.val (R.move rfl rfl) rfl rfl rfl ?_
  refine LL.call (R.call rfl rfl rfl) rfl rfl rfl (num_any _ _) ?_
  rintro e W' ⟨rfl, rfl⟩
  refine ⟨_, rfl, ?_⟩
  refine LL.val (R.eqT rfl rfl rfl (by omega)) rfl rfl rfl ?_
  refine LL.val (R.pick rfl rfl rfl) rfl rfl rfl ?_
  refine LL.val (R.move rfl rfl) rfl rfl rfl ?_
  refine LL.val (R.move rfl rfl) rfl rfl rfl ?_
  refine LL.val (R.eqT rfl rfl rfl (by omega)) rfl rfl rfl ?_
  refine LL.val (R.pick rfl rfl rfl) rfl rfl rfl ?_
  refine LL.val (R.move rfl rfl) rfl rfl rfl ?_
  refine LL.val (R.move rfl rfl) rfl rfl rfl ?_
  refine LL.val (R.eqT rfl rfl rfl (by omega)) rfl rfl rfl ?_
  refine LL.val (R.pick rfl rfl rfl) rfl rfl rfl ?_
  refine LL.val (R.assign rfl rfl) rfl rfl rfl ?_
  refine LL.nilS ?_
  refine CC.ret ?_
  refine EE.ret _ rfl rfl ?_
  exact ⟨rfl, q⟩
end Go.Proofs.Ytefepklacchghaa
