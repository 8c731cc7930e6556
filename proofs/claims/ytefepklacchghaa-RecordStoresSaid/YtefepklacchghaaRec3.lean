/- record: what a record's words must be, one after the other. -/
import Derived.Test.YtefepklacchghaaRec2
import Derived.Test.YtefepklacchghaaWEq
namespace Go.Proofs.Ytefepklacchghaa
set_option linter.unusedVariables false
set_option linter.unusedSimpArgs false
open Go.RowKit Go.Shelf
theorem fld_lo (x : Nat) (hx : x < 18446744073709551616) (w : World) : Calls Try.prog 51 #[.int .u64 (x : Int), .int .i64 0, .int .i64 16] w fun e w' => e = .returned (.tuple #[.int .u64 ((x % 65536 : Nat) : Int), .int .i64 0]) ∧ w = w' := by
  have h := field_ok x 0 16 hx (by omega) (by omega) w
  rw [show x / 2 ^ 0 % 2 ^ 16 = x % 65536 by simp] at h
  exact h
theorem fld_hi (x : Nat) (hx : x < 18446744073709551616) (w : World) : Calls Try.prog 51 #[.int .u64 (x : Int), .int .i64 16, .int .i64 8] w fun e w' => e = .returned (.tuple #[.int .u64 ((x / 65536 % 256 : Nat) : Int), .int .i64 0]) ∧ w = w' := by
  have h := field_ok x 16 8 hx (by omega) (by omega) w
  rw [show x / 2 ^ 16 % 2 ^ 8 = x / 65536 % 256 by simp] at h
  exact h
/-- A record under way, and its words. -/
abbrev undR (n : Int) (l : Bs) (v : Value) : List Value := [.int .i64 n, strV l, v]
set_option maxRecDepth 100000 in
set_option maxHeartbeats 4000000 in
theorem ufield_lo (g bk off N cap x : Nat) (n : Int) (l : Bs) (w : World) (hr : RowL w g 62 (undR n l (.slice (some ⟨bk, off, none⟩) N cap))) (hN : 0 < N ∧ N ≤ cap) (c1 : w.cell? ⟨bk, off + 0, none⟩ = some (.int .u64 (x : Int))) (hx : x < 18446744073709551616) : Calls Try.prog 36 #[.pointer (some ⟨g, 0, none⟩), .int .i64 0, .int .i64 16] w fun e w' => e = .returned (.int .i64 ((x % 65536 : Nat) : Int)) ∧ w = w' := by
  refine X.fn Try.func36 rfl (n := 23) rfl rfl ?_
  refine CC.seq ?_
  refine CC.region ?_
  refine LL.val (R.assign rfl rfl) rfl rfl rfl ?_
  refine LL.nilS ?_
  refine CC.seq ?_
  refine CC.region ?_
  refine LL.val (R.move rfl rfl) rfl rfl rfl ?_
  refine LL.val (R.nil rfl rfl) rfl rfl rfl ?_
  refine LL.val (R.field rfl rfl (I.fld rfl)) rfl rfl rfl ?_
  refine LL.val (R.load rfl rfl (I.ld1 rfl (RowL.cell hr rfl))) rfl rfl rfl ?_
  refine LL.val (R.index rfl rfl rfl (I.ixS1c rfl rfl (by omega))) rfl rfl rfl ?_
  refine LL.val (R.load rfl rfl (I.ld1 rfl (by assumption))) rfl rfl rfl ?_
  refine LL.val (R.move rfl rfl) rfl rfl rfl ?_
  refine LL.val (R.move rfl rfl) rfl rfl rfl ?_
  refine LL.call (R.call rfl rfl rfl) rfl rfl rfl (fld_lo _ (by first | assumption | omega) _) ?_
  rintro e W' ⟨rfl, rfl⟩
  refine ⟨_, rfl, ?_⟩
  refine LL.val (R.move rfl rfl) rfl rfl rfl ?_
  refine LL.val (R.extract rfl rfl rfl) rfl rfl rfl ?_
  refine LL.val (R.extract rfl rfl rfl) rfl rfl rfl ?_
  refine LL.val (R.assign rfl rfl) rfl rfl rfl ?_
  refine LL.val (R.assign rfl rfl) rfl rfl rfl ?_
  refine LL.nilS ?_
  refine CC.seq ?_
  refine CC.region ?_
  refine LL.val (R.move rfl rfl) rfl rfl rfl ?_
  refine LL.val (R.convI rfl rfl rfl rfl (wrapI (by omega) (by omega))) rfl rfl rfl ?_
  refine LL.val (R.assign rfl rfl) rfl rfl rfl ?_
  refine LL.nilS ?_
  refine CC.ret ?_
  refine EE.ret _ rfl rfl ?_
  exact ⟨rfl, rfl⟩
set_option maxRecDepth 100000 in
set_option maxHeartbeats 4000000 in
theorem ufield_hi (g bk off N cap x : Nat) (n : Int) (l : Bs) (w : World) (hr : RowL w g 62 (undR n l (.slice (some ⟨bk, off, none⟩) N cap))) (hN : 0 < N ∧ N ≤ cap) (c1 : w.cell? ⟨bk, off + 0, none⟩ = some (.int .u64 (x : Int))) (hx : x < 18446744073709551616) : Calls Try.prog 36 #[.pointer (some ⟨g, 0, none⟩), .int .i64 16, .int .i64 8] w fun e w' => e = .returned (.int .i64 ((x / 65536 % 256 : Nat) : Int)) ∧ w = w' := by
  refine X.fn Try.func36 rfl (n := 23) rfl rfl ?_
  refine CC.seq ?_
  refine CC.region ?_
  refine LL.val (R.assign rfl rfl) rfl rfl rfl ?_
  refine LL.nilS ?_
  refine CC.seq ?_
  refine CC.region ?_
  refine LL.val (R.move rfl rfl) rfl rfl rfl ?_
  refine LL.val (R.nil rfl rfl) rfl rfl rfl ?_
  refine LL.val (R.field rfl rfl (I.fld rfl)) rfl rfl rfl ?_
  refine LL.val (R.load rfl rfl (I.ld1 rfl (RowL.cell hr rfl))) rfl rfl rfl ?_
  refine LL.val (R.index rfl rfl rfl (I.ixS1c rfl rfl (by omega))) rfl rfl rfl ?_
  refine LL.val (R.load rfl rfl (I.ld1 rfl (by assumption))) rfl rfl rfl ?_
  refine LL.val (R.move rfl rfl) rfl rfl rfl ?_
  refine LL.val (R.move rfl rfl) rfl rfl rfl ?_
  refine LL.call (R.call rfl rfl rfl) rfl rfl rfl (fld_hi _ (by first | assumption | omega) _) ?_
  rintro e W' ⟨rfl, rfl⟩
  refine ⟨_, rfl, ?_⟩
  refine LL.val (R.move rfl rfl) rfl rfl rfl ?_
  refine LL.val (R.extract rfl rfl rfl) rfl rfl rfl ?_
  refine LL.val (R.extract rfl rfl rfl) rfl rfl rfl ?_
  refine LL.val (R.assign rfl rfl) rfl rfl rfl ?_
  refine LL.val (R.assign rfl rfl) rfl rfl rfl ?_
  refine LL.nilS ?_
  refine CC.seq ?_
  refine CC.region ?_
  refine LL.val (R.move rfl rfl) rfl rfl rfl ?_
  refine LL.val (R.convI rfl rfl rfl rfl (wrapI (by omega) (by omega))) rfl rfl rfl ?_
  refine LL.val (R.assign rfl rfl) rfl rfl rfl ?_
  refine LL.nilS ?_
  refine CC.ret ?_
  refine EE.ret _ rfl rfl ?_
  exact ⟨rfl, rfl⟩
set_option maxRecDepth 100000 in
set_option maxHeartbeats 4000000 in
theorem m1_F (g N cap : Nat) (a : Option Addr) (n : Int) (l : Bs) (w : World) (hr : RowL w g 62 (undR n l (.slice a N cap))) (hN : N ≠ 16 ∧ N ≤ 1048576) : Calls Try.prog 34 #[.pointer (some ⟨g, 0, none⟩)] w fun e w' => e = .returned (.bool false) ∧ w = w' := by
  refine X.fn Try.func34 rfl (n := 18) rfl rfl ?_
  refine CC.seq ?_
  refine CC.region ?_
  refine LL.val (R.assign rfl rfl) rfl rfl rfl ?_
  refine LL.nilS ?_
  refine CC.seq ?_
  refine CC.region ?_
  refine LL.val (R.move rfl rfl) rfl rfl rfl ?_
  refine LL.val (R.nil rfl rfl) rfl rfl rfl ?_
  refine LL.val (R.field rfl rfl (I.fld rfl)) rfl rfl rfl ?_
  refine LL.val (R.load rfl rfl (I.ld1 rfl (RowL.cell hr rfl))) rfl rfl rfl ?_
  refine LL.val (R.len rfl rfl rfl rfl) rfl rfl rfl ?_
  refine LL.val (R.eqF rfl rfl rfl (by omega)) rfl rfl rfl ?_
  refine LL.val (R.move rfl rfl) rfl rfl rfl ?_
  refine LL.skip rfl rfl ?_
  refine LL.skip rfl rfl ?_
  refine LL.skip rfl rfl ?_
  refine LL.skip rfl rfl ?_
  refine LL.skip rfl rfl ?_
  refine LL.skip rfl rfl ?_
  refine LL.skip rfl rfl ?_
  refine LL.val (R.pick rfl rfl rfl) rfl rfl rfl ?_
  refine LL.val (R.assign rfl rfl) rfl rfl rfl ?_
  refine LL.nilS ?_
  refine CC.ret ?_
  refine EE.ret _ rfl rfl ?_
  exact ⟨rfl, rfl⟩
set_option maxRecDepth 100000 in
set_option maxHeartbeats 4000000 in
theorem m1_any (g bk off cap x : Nat) (n : Int) (l : Bs) (w : World) (hr : RowL w g 62 (undR n l (.slice (some ⟨bk, off, none⟩) 16 cap))) (hN : 16 ≤ cap) (c1 : w.cell? ⟨bk, off + 0, none⟩ = some (.int .u64 (x : Int))) : Calls Try.prog 34 #[.pointer (some ⟨g, 0, none⟩)] w fun e w' => e = .returned (.bool (decide (x ≠ 0))) ∧ w = w' := by
  by_cases hx : x = 0
  · rw [decide_eq_false (by omega)]
    refine X.fn Try.func34 rfl (n := 18) rfl rfl ?_
    refine CC.seq ?_
    refine CC.region ?_
    refine LL.val (R.assign rfl rfl) rfl rfl rfl ?_
    refine LL.nilS ?_
    refine CC.seq ?_
    refine CC.region ?_
    refine LL.val (R.move rfl rfl) rfl rfl rfl ?_
    refine LL.val (R.nil rfl rfl) rfl rfl rfl ?_
    refine LL.val (R.field rfl rfl (I.fld rfl)) rfl rfl rfl ?_
    refine LL.val (R.load rfl rfl (I.ld1 rfl (RowL.cell hr rfl))) rfl rfl rfl ?_
    refine LL.val (R.len rfl rfl rfl rfl) rfl rfl rfl ?_
    refine LL.val (R.eqT rfl rfl rfl (by omega)) rfl rfl rfl ?_
    refine LL.val (R.move rfl rfl) rfl rfl rfl ?_
    refine LL.val (R.move rfl rfl) rfl rfl rfl ?_
    refine LL.val (R.nil rfl rfl) rfl rfl rfl ?_
    refine LL.val (R.field rfl rfl (I.fld rfl)) rfl rfl rfl ?_
    refine LL.val (R.load rfl rfl (I.ld1 rfl (RowL.cell hr rfl))) rfl rfl rfl ?_
    refine LL.val (R.index rfl rfl rfl (I.ixS1c rfl rfl (by omega))) rfl rfl rfl ?_
    refine LL.val (R.load rfl rfl (I.ld1 rfl (by assumption))) rfl rfl rfl ?_
    refine LL.val (R.neF rfl rfl rfl (by omega)) rfl rfl rfl ?_
    refine LL.val (R.pick rfl rfl rfl) rfl rfl rfl ?_
    refine LL.val (R.assign rfl rfl) rfl rfl rfl ?_
    refine LL.nilS ?_
    refine CC.ret ?_
    refine EE.ret _ rfl rfl ?_
    exact ⟨rfl, rfl⟩
  · rw [decide_eq_true hx]
    refine X.fn Try.func34 rfl (n := 18) rfl rfl ?_
    refine CC.seq ?_
    refine CC.region ?_
    refine LL.val (R.assign rfl rfl) rfl rfl rfl ?_
    refine LL.nilS ?_
    refine CC.seq ?_
    refine CC.region ?_
    refine LL.val (R.move rfl rfl) rfl rfl rfl ?_
    refine LL.val (R.nil rfl rfl) rfl rfl rfl ?_
    refine LL.val (R.field rfl rfl (I.fld rfl)) rfl rfl rfl ?_
    refine LL.val (R.load rfl rfl (I.ld1 rfl (RowL.cell hr rfl))) rfl rfl rfl ?_
    refine LL.val (R.len rfl rfl rfl rfl) rfl rfl rfl ?_
    refine LL.val (R.eqT rfl rfl rfl (by omega)) rfl rfl rfl ?_
    refine LL.val (R.move rfl rfl) rfl rfl rfl ?_
    refine LL.val (R.move rfl rfl) rfl rfl rfl ?_
    refine LL.val (R.nil rfl rfl) rfl rfl rfl ?_
    refine LL.val (R.field rfl rfl (I.fld rfl)) rfl rfl rfl ?_
    refine LL.val (R.load rfl rfl (I.ld1 rfl (RowL.cell hr rfl))) rfl rfl rfl ?_
    refine LL.val (R.index rfl rfl rfl (I.ixS1c rfl rfl (by omega))) rfl rfl rfl ?_
    refine LL.val (R.load rfl rfl (I.ld1 rfl (by assumption))) rfl rfl rfl ?_
    refine LL.val (R.neT rfl rfl rfl (by omega)) rfl rfl rfl ?_
    refine LL.val (R.pick rfl rfl rfl) rfl rfl rfl ?_
    refine LL.val (R.assign rfl rfl) rfl rfl rfl ?_
    refine LL.nilS ?_
    refine CC.ret ?_
    refine EE.ret _ rfl rfl ?_
    exact ⟨rfl, rfl⟩
/-- What a must does: it may write the record under way, and make memory. -/
abbrev keepR (g : Nat) (w w' : World) : Prop := Kept (fun j => j < w.heap.size ∧ j ≠ g) w w'
theorem keepR_set {g : Nat} {w w' : World} (h : w.grownBy w' (some g)) : keepR g w w' := grown_kept h (fun j h => h.1) (fun j h e => by cases e; exact h.2 rfl)
theorem keepR_bel {g : Nat} {w w' : World} (h : Below w.heap.size w w') : keepR g w w' := bkept h (fun j h => h.1)
theorem keepR_trans {g : Nat} {w w1 w2 : World} (h : keepR g w w1) (h2 : keepR g w1 w2) : keepR g w w2 := h.trans (h2.less fun j hj => ⟨by have := h.size; have := hj.1; omega, hj.2⟩)
set_option maxRecDepth 100000 in
set_option maxHeartbeats 4000000 in
theorem m2_any (g bk off cap x : Nat) (n : Int) (l : Bs) (w : World) (hr : RowL w g 62 (undR n l (.slice (some ⟨bk, off, none⟩) 16 cap))) (hN : 16 ≤ cap) (c1 : w.cell? ⟨bk, off + 0, none⟩ = some (.int .u64 (x : Int))) (hx : x < 18446744073709551616) (hbk : bk ≠ g) : Calls Try.prog 35 #[.pointer (some ⟨g, 0, none⟩)] w fun e w' => e = .returned (.bool (decide (1 ≤ x % 65536 ∧ x % 65536 ≤ 256))) ∧ RowL w' g 62 (undR ((x % 65536 : Nat) : Int) l (.slice (some ⟨bk, off, none⟩) 16 cap)) ∧ keepR g w w' := by
  by_cases hd : 1 ≤ x % 65536 ∧ x % 65536 ≤ 256
  · rw [decide_eq_true hd]
    refine X.fn Try.func35 rfl (n := 15) rfl rfl ?_
    refine CC.seq ?_
    refine CC.region ?_
    refine LL.val (R.assign rfl rfl) rfl rfl rfl ?_
    refine LL.nilS ?_
    refine CC.seq ?_
    refine CC.region ?_
    refine LL.val (R.move rfl rfl) rfl rfl rfl ?_
    refine LL.val (R.move rfl rfl) rfl rfl rfl ?_
    refine LL.call (R.call rfl rfl rfl) rfl rfl rfl (ufield_lo _ _ _ _ _ _ _ _ _ (by assumption) (by omega) (by assumption) (by omega)) ?_
    rintro e W' ⟨rfl, rfl⟩
    refine ⟨_, rfl, ?_⟩
    refine LL.val (R.nil rfl rfl) rfl rfl rfl ?_
    refine LL.val (R.field rfl rfl (I.fld rfl)) rfl rfl rfl ?_
    refine LL.val (R.field rfl rfl (I.fld rfl)) rfl rfl rfl ?_
    refine LL.store rfl rfl rfl rfl hr (by exact Nat.le_of_ble_eq_true rfl) rfl rfl rfl rfl ?_
    intro W2 r3 b1 z4
    have hlb1 := hr.lt
    replace r3 : RowL W2 _ 62 [Value.int IntKind.i64 ↑(x % 65536), strV l, Value.slice (some { block := bk, off := off }) 16 cap] := r3
    clear hr
    replace c1 := cell_gr c1 b1 (by omega)
    have hr := r3
    clear r3
    refine LL.nilS ?_
    refine CC.seq ?_
    refine CC.region ?_
    refine LL.val (R.move rfl rfl) rfl rfl rfl ?_
    refine LL.val (R.nil rfl rfl) rfl rfl rfl ?_
    refine LL.val (R.field rfl rfl (I.fld rfl)) rfl rfl rfl ?_
    refine LL.val (R.field rfl rfl (I.fld rfl)) rfl rfl rfl ?_
    refine LL.val (R.load rfl rfl (I.ld1 rfl (RowL.cell hr rfl))) rfl rfl rfl ?_
    refine LL.callDT (R.call rfl rfl rfl) rfl rfl rfl (rwithin_any _ _ _ _) (by first | assumption | omega) ?_
    refine LL.val (R.assign rfl rfl) rfl rfl rfl ?_
    refine LL.nilS ?_
    refine CC.ret ?_
    refine EE.ret _ rfl rfl ?_
    exact ⟨rfl, hr, keepR_set (by assumption)⟩
  · rw [decide_eq_false hd]
    refine X.fn Try.func35 rfl (n := 15) rfl rfl ?_
    refine CC.seq ?_
    refine CC.region ?_
    refine LL.val (R.assign rfl rfl) rfl rfl rfl ?_
    refine LL.nilS ?_
    refine CC.seq ?_
    refine CC.region ?_
    refine LL.val (R.move rfl rfl) rfl rfl rfl ?_
    refine LL.val (R.move rfl rfl) rfl rfl rfl ?_
    refine LL.call (R.call rfl rfl rfl) rfl rfl rfl (ufield_lo _ _ _ _ _ _ _ _ _ (by assumption) (by omega) (by assumption) (by omega)) ?_
    rintro e W' ⟨rfl, rfl⟩
    refine ⟨_, rfl, ?_⟩
    refine LL.val (R.nil rfl rfl) rfl rfl rfl ?_
    refine LL.val (R.field rfl rfl (I.fld rfl)) rfl rfl rfl ?_
    refine LL.val (R.field rfl rfl (I.fld rfl)) rfl rfl rfl ?_
    refine LL.store rfl rfl rfl rfl hr (by exact Nat.le_of_ble_eq_true rfl) rfl rfl rfl rfl ?_
    intro Wa2 ra3 ba1 za4
    have hlba1 := hr.lt
    replace ra3 : RowL Wa2 _ 62 [Value.int IntKind.i64 ↑(x % 65536), strV l, Value.slice (some { block := bk, off := off }) 16 cap] := ra3
    clear hr
    replace c1 := cell_gr c1 ba1 (by omega)
    have hr := ra3
    clear ra3
    refine LL.nilS ?_
    refine CC.seq ?_
    refine CC.region ?_
    refine LL.val (R.move rfl rfl) rfl rfl rfl ?_
    refine LL.val (R.nil rfl rfl) rfl rfl rfl ?_
    refine LL.val (R.field rfl rfl (I.fld rfl)) rfl rfl rfl ?_
    refine LL.val (R.field rfl rfl (I.fld rfl)) rfl rfl rfl ?_
    refine LL.val (R.load rfl rfl (I.ld1 rfl (RowL.cell hr rfl))) rfl rfl rfl ?_
    refine LL.callDF (R.call rfl rfl rfl) rfl rfl rfl (rwithin_any _ _ _ _) (by first | assumption | omega) ?_
    refine LL.val (R.assign rfl rfl) rfl rfl rfl ?_
    refine LL.nilS ?_
    refine CC.ret ?_
    refine EE.ret _ rfl rfl ?_
    exact ⟨rfl, hr, keepR_set (by assumption)⟩
/-- Numbers as a string's bytes. -/
def ofN (bs : List Nat) : Bs := bs.map UInt8.ofNat
theorem nbL_ofN {bs : List Nat} (h : ∀ x ∈ bs, x < 256) : nbL (ofN bs) = bs := by
  unfold nbL ofN
  rw [List.map_map]
  conv => rhs; rw [← List.map_id bs]
  apply List.map_congr_left
  intro x hx
  have := h x hx
  simp [Nat.mod_eq_of_lt this]
theorem ofN_nbL (l : Bs) : ofN (nbL l) = l := by
  unfold nbL ofN
  rw [List.map_map]
  conv => rhs; rw [← List.map_id l]
  apply List.map_congr_left
  intro x hx
  simp
/-- The name that words tell, of so many bytes. -/
def nmW (ws : List Nat) (k : Nat) : Bs := ofN ((bytesL ((ws.drop 1).take ((k + 7) / 8))).take k)
set_option maxRecDepth 100000 in
set_option maxHeartbeats 4000000 in
theorem m3_F (g bk off cap x : Nat) (n : Int) (l : Bs) (w : World) (hr : RowL w g 62 (undR n l (.slice (some ⟨bk, off, none⟩) 16 cap))) (hN : 16 ≤ cap) (c1 : w.cell? ⟨bk, off + 0, none⟩ = some (.int .u64 (x : Int))) (hx : x < 18446744073709551616) (hlong : ¬(1 ≤ x / 65536 % 256 ∧ x / 65536 % 256 ≤ 120)) : Calls Try.prog 37 #[.pointer (some ⟨g, 0, none⟩)] w fun e w' => e = .returned (.bool false) ∧ w = w' := by
  refine X.fn Try.func37 rfl (n := 33) rfl rfl ?_
  refine CC.seq ?_
  refine CC.region ?_
  refine LL.val (R.assign rfl rfl) rfl rfl rfl ?_
  refine LL.nilS ?_
  refine CC.seq ?_
  refine CC.region ?_
  refine LL.val (R.move rfl rfl) rfl rfl rfl ?_
  refine LL.call (R.call rfl rfl rfl) rfl rfl rfl (ufield_hi _ _ _ _ _ _ _ _ _ (by assumption) (by omega) (by assumption) (by omega)) ?_
  rintro e W' ⟨rfl, rfl⟩
  refine ⟨_, rfl, ?_⟩
  refine LL.val (R.assign rfl rfl) rfl rfl rfl ?_
  refine LL.nilS ?_
  refine CC.seq ?_
  refine CC.seq ?_
  refine CC.region ?_
  refine LL.val (R.move rfl rfl) rfl rfl rfl ?_
  refine LL.callDF (R.call rfl rfl rfl) rfl rfl rfl (rwithin_any _ _ _ _) (by first | assumption | omega) ?_
  refine LL.val (R.not rfl rfl) rfl rfl rfl ?_
  refine LL.nilS ?_
  refine CC.yes rfl ?_
  refine CC.seq ?_
  refine CC.region ?_
  refine LL.val (R.assign rfl rfl) rfl rfl rfl ?_
  refine LL.nilS ?_
  refine CC.ret ?_
  refine EE.thenR ?_
  refine EE.ret _ rfl rfl ?_
  exact ⟨rfl, rfl⟩
set_option maxRecDepth 100000 in
set_option maxHeartbeats 4000000 in
theorem m3_any (g bk off cap x k : Nat) (ws : List Nat) (n : Int) (l : Bs) (w : World) (hr : RowL w g 62 (undR n l (.slice (some ⟨bk, off, none⟩) 16 cap))) (hN : 16 ≤ cap) (hR : Reads w (.slice (some ⟨bk, off, none⟩) 16 cap) (ints .u64 ws)) (hws : ws.length = 16) (c1 : w.cell? ⟨bk, off + 0, none⟩ = some (.int .u64 (x : Int))) (hx : x < 18446744073709551616) (hk : x / 65536 % 256 = k) (hlong : 1 ≤ k ∧ k ≤ 120) (hbk : bk ≠ g) : Calls Try.prog 37 #[.pointer (some ⟨g, 0, none⟩)] w fun e w' => ∃ b : Bool, e = .returned (.bool b) ∧ (b = true → zerosB ((bytesL ((ws.drop 1).take ((k + 7) / 8))).drop k) = true ∧ RowL w' g 62 (undR n (nmW ws k) (.slice (some ⟨bk, off, none⟩) 16 cap))) ∧ (zerosB ((bytesL ((ws.drop 1).take ((k + 7) / 8))).drop k) = true → b = true) ∧ keepR g w w' := by
  refine X.fn Try.func37 rfl (n := 33) rfl rfl ?_
  refine CC.seq ?_
  refine CC.region ?_
  refine LL.val (R.assign rfl rfl) rfl rfl rfl ?_
  refine LL.nilS ?_
  refine CC.seq ?_
  refine CC.region ?_
  refine LL.val (R.move rfl rfl) rfl rfl rfl ?_
  refine LL.call (R.call rfl rfl rfl) rfl rfl rfl (ufield_hi _ _ _ _ _ _ _ _ _ (by assumption) (by omega) (by assumption) (by omega)) ?_
  rintro e W' ⟨rfl, rfl⟩
  refine ⟨_, rfl, ?_⟩
  refine LL.val (R.assign rfl rfl) rfl rfl rfl ?_
  refine LL.nilS ?_
  refine CC.seq ?_
  refine CC.seq ?_
  refine CC.region ?_
  refine LL.val (R.move rfl rfl) rfl rfl rfl ?_
  refine LL.callDT (R.call rfl rfl rfl) rfl rfl rfl (rwithin_any _ _ _ _) (by first | assumption | omega) ?_
  refine LL.val (R.not rfl rfl) rfl rfl rfl ?_
  refine LL.nilS ?_
  refine CC.no rfl ?_
  refine CC.skip ?_
  refine EE.thenN ?_
  refine CC.seq ?_
  refine CC.region ?_
  refine LL.val (R.move rfl rfl) rfl rfl rfl ?_
  refine LL.val (R.nil rfl rfl) rfl rfl rfl ?_
  refine LL.val (R.field rfl rfl (I.fld rfl)) rfl rfl rfl ?_
  refine LL.val (R.load rfl rfl (I.ld1 rfl (RowL.cell hr rfl))) rfl rfl rfl ?_
  refine LL.val (R.move rfl rfl) rfl rfl rfl ?_
  refine LL.val (R.addNc rfl rfl rfl rfl (by omega)) rfl rfl rfl ?_
  refine LL.val (R.quoNc rfl rfl rfl rfl (by omega) (by omega)) rfl rfl rfl ?_
  refine LL.val (R.addI rfl rfl rfl (by omega)) rfl rfl rfl ?_
  refine LL.val (R.slice rfl rfl rfl rfl rfl (I.slS (lo := 1) (hi := 1 + (x / 65536 % 256 + 7) / 8) rfl (by omega) (by omega) (by omega))) rfl rfl rfl ?_
  have hP := hR.part (lo := 1) (hi := 1 + (x / 65536 % 256 + 7) / 8) (by omega) (by omega) (by omega)
  rw [show (1 + (x / 65536 % 256 + 7) / 8) - 1 = (k + 7) / 8 by omega, show ints .u64 ws = ws.map (fun n : Nat => Value.int .u64 (n : Int)) from rfl, ← List.map_drop, ← List.map_take] at hP
  rw [show (1 + (x / 65536 % 256 + 7) / 8) - 1 = (k + 7) / 8 by omega]
  have hlen : ((ws.drop 1).take ((k + 7) / 8)).length = (k + 7) / 8 := by simp; omega
  refine LL.val (R.move rfl rfl) rfl rfl rfl ?_
  refine LL.call (R.call rfl rfl rfl) rfl rfl rfl (take_any _ ((ws.drop 1).take ((k + 7) / 8)) (x / 65536 % 256) _ hP (by omega) (by omega)) ?_
  rintro e W1 ⟨v', no, rfl, b1, hz⟩
  refine ⟨_, rfl, ?_⟩
  rw [hk] at hz
  have r1 := hr.up b1
  have hglt := hr.lt
  rcases hz with ⟨hz, rfl, hb⟩ | ⟨hz, rfl, rfl⟩
  · refine LL.val (R.move rfl rfl) rfl rfl rfl ?_
    refine LL.val (R.extract rfl rfl rfl) rfl rfl rfl ?_
    refine LL.val (R.extract rfl rfl rfl) rfl rfl rfl ?_
    refine LL.val (R.assign rfl rfl) rfl rfl rfl ?_
    refine LL.val (R.assign rfl rfl) rfl rfl rfl ?_
    refine LL.nilS ?_
    refine CC.seq ?_
    refine CC.region ?_
    refine LL.val (R.move rfl rfl) rfl rfl rfl ?_
    refine LL.val (R.move rfl rfl) rfl rfl rfl ?_
    refine LL.val (R.conv rfl rfl (run_toStr rfl rfl hb)) rfl rfl rfl ?_
    refine LL.val (R.nil rfl rfl) rfl rfl rfl ?_
    refine LL.val (R.field rfl rfl (I.fld rfl)) rfl rfl rfl ?_
    refine LL.val (R.field rfl rfl (I.fld rfl)) rfl rfl rfl ?_
    refine LL.store rfl rfl rfl rfl r1 (by exact Nat.le_of_ble_eq_true rfl) rfl rfl rfl rfl ?_
    intro Wb2 rb3 bb1 zb4
    have hlbb1 := r1.lt
    replace rb3 : RowL Wb2 _ 62 [Value.int IntKind.i64 n, Value.string (strB (List.take k (bytesL (List.take ((k + 7) / 8) (List.drop 1 ws))))), Value.slice (some { block := bk, off := off }) 16 cap] := rb3
    clear r1
    have r1 := rb3
    clear rb3
    refine LL.nilS ?_
    refine CC.seq ?_
    refine CC.region ?_
    refine LL.val (R.move rfl rfl) rfl rfl rfl ?_
    refine LL.val (R.eqT rfl rfl rfl (by omega)) rfl rfl rfl ?_
    refine LL.val (R.assign rfl rfl) rfl rfl rfl ?_
    refine LL.nilS ?_
    refine CC.ret ?_
    refine EE.ret _ rfl rfl ?_
    exact ⟨true, rfl, fun _ => ⟨hz, r1⟩, fun _ => rfl, keepR_trans (keepR_bel b1) (keepR_set (by assumption))⟩
  · have hb : Reads W1 (.slice none 0 0) (ints .u8 []) := ⟨none, 0, rfl, Nat.le_refl _, fun h => (h rfl).elim⟩
    refine LL.val (R.move rfl rfl) rfl rfl rfl ?_
    refine LL.val (R.extract rfl rfl rfl) rfl rfl rfl ?_
    refine LL.val (R.extract rfl rfl rfl) rfl rfl rfl ?_
    refine LL.val (R.assign rfl rfl) rfl rfl rfl ?_
    refine LL.val (R.assign rfl rfl) rfl rfl rfl ?_
    refine LL.nilS ?_
    refine CC.seq ?_
    refine CC.region ?_
    refine LL.val (R.move rfl rfl) rfl rfl rfl ?_
    refine LL.val (R.move rfl rfl) rfl rfl rfl ?_
    refine LL.val (R.conv rfl rfl (run_toStr rfl rfl hb)) rfl rfl rfl ?_
    refine LL.val (R.nil rfl rfl) rfl rfl rfl ?_
    refine LL.val (R.field rfl rfl (I.fld rfl)) rfl rfl rfl ?_
    refine LL.val (R.field rfl rfl (I.fld rfl)) rfl rfl rfl ?_
    refine LL.store rfl rfl rfl rfl r1 (by exact Nat.le_of_ble_eq_true rfl) rfl rfl rfl rfl ?_
    intro Wc2 rc3 bc1 zc4
    have hlbc1 := r1.lt
    replace rc3 : RowL Wc2 _ 62 [Value.int IntKind.i64 n, Value.string (strB []), Value.slice (some { block := bk, off := off }) 16 cap] := rc3
    clear r1
    have r1 := rc3
    clear rc3
    refine LL.nilS ?_
    refine CC.seq ?_
    refine CC.region ?_
    refine LL.val (R.move rfl rfl) rfl rfl rfl ?_
    refine LL.val (R.eqF rfl rfl rfl (by omega)) rfl rfl rfl ?_
    refine LL.val (R.assign rfl rfl) rfl rfl rfl ?_
    refine LL.nilS ?_
    refine CC.ret ?_
    refine EE.ret _ rfl rfl ?_
    exact ⟨false, rfl, fun h => (by cases h), fun h => (by rw [h] at hz; cases hz), keepR_trans (keepR_bel b1) (keepR_set (by assumption))⟩
set_option maxRecDepth 100000 in
set_option maxHeartbeats 4000000 in
theorem m4_F (g bk off cap : Nat) (n : Int) (l : Bs) (w : World) (hr : RowL w g 62 (undR n l (.slice (some ⟨bk, off, none⟩) 16 cap))) (hl : l.length ≤ 1048576) (h : ¬okR n l) : Calls Try.prog 39 #[.pointer (some ⟨g, 0, none⟩)] w fun e w' => e = .returned (.bool false) ∧ Below w.heap.size w w' := by
  have q := Below.refl w.heap.size w
  refine X.fn Try.func39 rfl (n := 23) rfl rfl ?_
  refine CC.seq ?_
  refine CC.region ?_
  refine LL.val (R.assign rfl rfl) rfl rfl rfl ?_
  refine LL.nilS ?_
  refine CC.seq ?_
  refine CC.region ?_
  refine LL.val (R.move rfl rfl) rfl rfl rfl ?_
  refine LL.val (R.nil rfl rfl) rfl rfl rfl ?_
  refine LL.val (R.field rfl rfl (I.fld rfl)) rfl rfl rfl ?_
  refine LL.val (R.load rfl rfl (I.ldNc (vs := [Value.int IntKind.i64 n, strV l]) (RowL.cells hr rfl) (by rfl) (by rfl))) rfl rfl rfl ?_
  refine LL.call (R.call rfl rfl rfl) rfl rfl rfl (words_F n l _ hl h) ?_
  rintro e W1 ⟨rfl, b1⟩
  refine ⟨_, rfl, ?_⟩
  replace q := q.trans (b1.mono q.size)
  refine LL.val (R.move rfl rfl) rfl rfl rfl ?_
  refine LL.val (R.extract rfl rfl rfl) rfl rfl rfl ?_
  refine LL.val (R.extract rfl rfl rfl) rfl rfl rfl ?_
  refine LL.val (R.assign rfl rfl) rfl rfl rfl ?_
  refine LL.val (R.assign rfl rfl) rfl rfl rfl ?_
  refine LL.nilS ?_
  refine CC.seq ?_
  refine CC.region ?_
  refine LL.val (R.move rfl rfl) rfl rfl rfl ?_
  refine LL.val (R.eqF rfl rfl rfl (by omega)) rfl rfl rfl ?_
  refine LL.val (R.move rfl rfl) rfl rfl rfl ?_
  refine LL.skip rfl rfl ?_
  refine LL.skip rfl rfl ?_
  refine LL.skip rfl rfl ?_
  refine LL.skip rfl rfl ?_
  refine LL.skip rfl rfl ?_
  refine LL.skip rfl rfl ?_
  refine LL.val (R.pick rfl rfl rfl) rfl rfl rfl ?_
  refine LL.val (R.assign rfl rfl) rfl rfl rfl ?_
  refine LL.nilS ?_
  refine CC.ret ?_
  refine EE.ret _ rfl rfl ?_
  exact ⟨rfl, q⟩
set_option maxRecDepth 100000 in
set_option maxHeartbeats 4000000 in
theorem m4_any (g bk off cap n : Nat) (l : Bs) (ws : List Nat) (w : World) (hr : RowL w g 62 (undR n l (.slice (some ⟨bk, off, none⟩) 16 cap))) (hR : Reads w (.slice (some ⟨bk, off, none⟩) 16 cap) (ints .u64 ws)) (hws : ws.length = 16) (h : okR n l) : Calls Try.prog 39 #[.pointer (some ⟨g, 0, none⟩)] w fun e w' => e = .returned (.bool (decide (recW n l = ws))) ∧ Below w.heap.size w w' := by
  have q := Below.refl w.heap.size w
  have hlr := recW_len (n := n) (nameN_len h.2).2
  refine X.fn Try.func39 rfl (n := 23) rfl rfl ?_
  refine CC.seq ?_
  refine CC.region ?_
  refine LL.val (R.assign rfl rfl) rfl rfl rfl ?_
  refine LL.nilS ?_
  refine CC.seq ?_
  refine CC.region ?_
  refine LL.val (R.move rfl rfl) rfl rfl rfl ?_
  refine LL.val (R.nil rfl rfl) rfl rfl rfl ?_
  refine LL.val (R.field rfl rfl (I.fld rfl)) rfl rfl rfl ?_
  refine LL.val (R.load rfl rfl (I.ldNc (vs := [Value.int IntKind.i64 ↑n, strV l]) (RowL.cells hr rfl) (by rfl) (by rfl))) rfl rfl rfl ?_
  refine LL.call (R.call rfl rfl rfl) rfl rfl rfl (words_T n l _ h) ?_
  rintro e W1 ⟨v, rfl, o, b1⟩
  refine ⟨_, rfl, ?_⟩
  replace q := q.trans (b1.mono q.size)
  replace hr := hr.up b1
  replace hR := hR.up b1
  have hv := reads_of_owns o
  clear o b1
  by_cases he : recW n l = ws
  · rw [decide_eq_true he]
    refine LL.val (R.move rfl rfl) rfl rfl rfl ?_
    refine LL.val (R.extract rfl rfl rfl) rfl rfl rfl ?_
    refine LL.val (R.extract rfl rfl rfl) rfl rfl rfl ?_
    refine LL.val (R.assign rfl rfl) rfl rfl rfl ?_
    refine LL.val (R.assign rfl rfl) rfl rfl rfl ?_
    refine LL.nilS ?_
    refine CC.seq ?_
    refine CC.region ?_
    refine LL.val (R.move rfl rfl) rfl rfl rfl ?_
    refine LL.val (R.eqT rfl rfl rfl (by omega)) rfl rfl rfl ?_
    refine LL.val (R.move rfl rfl) rfl rfl rfl ?_
    refine LL.val (R.move rfl rfl) rfl rfl rfl ?_
    refine LL.val (R.move rfl rfl) rfl rfl rfl ?_
    refine LL.val (R.nil rfl rfl) rfl rfl rfl ?_
    refine LL.val (R.field rfl rfl (I.fld rfl)) rfl rfl rfl ?_
    refine LL.val (R.load rfl rfl (I.ld1 rfl (RowL.cell hr rfl))) rfl rfl rfl ?_
    refine LL.callBT (R.call rfl rfl rfl) rfl rfl rfl (weq_any _ _ _ _ _ hv hR (by omega) (by omega)) he (fun W3 b3 => ?_)
    replace q := q.trans (b3.mono q.size)
    refine LL.val (R.pick rfl rfl rfl) rfl rfl rfl ?_
    refine LL.val (R.assign rfl rfl) rfl rfl rfl ?_
    refine LL.nilS ?_
    refine CC.ret ?_
    refine EE.ret _ rfl rfl ?_
    exact ⟨rfl, q⟩
  · rw [decide_eq_false he]
    refine LL.val (R.move rfl rfl) rfl rfl rfl ?_
    refine LL.val (R.extract rfl rfl rfl) rfl rfl rfl ?_
    refine LL.val (R.extract rfl rfl rfl) rfl rfl rfl ?_
    refine LL.val (R.assign rfl rfl) rfl rfl rfl ?_
    refine LL.val (R.assign rfl rfl) rfl rfl rfl ?_
    refine LL.nilS ?_
    refine CC.seq ?_
    refine CC.region ?_
    refine LL.val (R.move rfl rfl) rfl rfl rfl ?_
    refine LL.val (R.eqT rfl rfl rfl (by omega)) rfl rfl rfl ?_
    refine LL.val (R.move rfl rfl) rfl rfl rfl ?_
    refine LL.val (R.move rfl rfl) rfl rfl rfl ?_
    refine LL.val (R.move rfl rfl) rfl rfl rfl ?_
    refine LL.val (R.nil rfl rfl) rfl rfl rfl ?_
    refine LL.val (R.field rfl rfl (I.fld rfl)) rfl rfl rfl ?_
    refine LL.val (R.load rfl rfl (I.ld1 rfl (RowL.cell hr rfl))) rfl rfl rfl ?_
    refine LL.callBF (R.call rfl rfl rfl) rfl rfl rfl (weq_any _ _ _ _ _ hv hR (by omega) (by omega)) he (fun W3 b3 => ?_)
    replace q := q.trans (b3.mono q.size)
    refine LL.val (R.pick rfl rfl rfl) rfl rfl rfl ?_
    refine LL.val (R.assign rfl rfl) rfl rfl rfl ?_
    refine LL.nilS ?_
    refine CC.ret ?_
    refine EE.ret _ rfl rfl ?_
    exact ⟨rfl, q⟩
set_option maxRecDepth 100000 in
set_option maxHeartbeats 4000000 in
theorem musts_any (w : World) : Calls Try.prog 25 #[] w fun e w' => ∃ g, e = .returned (.slice (some ⟨g, 0, none⟩) 4 4) ∧ RowL w' g 65 [.func (.func 34) #[] #[], .func (.func 35) #[] #[], .func (.func 37) #[] #[], .func (.func 39) #[] #[]] ∧ w.heap.size ≤ g ∧ Below w.heap.size w w' := by
  have q := Below.refl w.heap.size w
  refine X.fn Try.func25 rfl (n := 2) rfl rfl ?_
  refine CC.seq ?_
  refine CC.region ?_
  refine LL.val (R.assign rfl rfl) rfl rfl rfl ?_
  refine LL.nilS ?_
  refine CC.seq ?_
  refine CC.region ?_
  refine LL.lit (e := 65) [Value.func (Fn.func 34) #[] #[], Value.func (Fn.func 35) #[] #[], Value.func (Fn.func 37) #[] #[], Value.func (Fn.func 39) #[] #[]] 4 rfl rfl (fun _ => by kernel_rfl) rfl rfl ?_
  intro W2 g3 eg3 r4 z5 b1
  replace q := q.trans (b1.mono q.size)
  refine LL.val (R.assign rfl rfl) rfl rfl rfl ?_
  refine LL.nilS ?_
  refine CC.ret ?_
  refine EE.ret _ rfl rfl ?_
  exact ⟨_, rfl, by assumption, by omega, q⟩
end Go.Proofs.Ytefepklacchghaa
