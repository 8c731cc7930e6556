/- The walk of BitmapSame. -/
import Derived.Test.YtojoaplbgcdapaaWorksB
namespace Go.Proofs.Ytojoaplbgcdapaa
set_option linter.unusedVariables false
set_option linter.unusedSimpArgs false
open Go.RowKit Go.Shelf

theorem readsU {w : World} {v : Value} {ns : List Nat} (h : Reads w v (ints .u64 ns)) : ReadsT uE 1 w v ns := by
  obtain ⟨a, cap, e, hc, h⟩ := h
  have hl : (ints .u64 ns).length = ns.length := by simp [ints]
  rw [hl] at e hc h
  refine ⟨a, cap, e, hc, fun hne => ?_⟩
  obtain ⟨b, off, ha, hb, hcell⟩ := h (fun e => hne (List.length_eq_zero_iff.1 (by rw [← hl, e]; rfl)))
  refine ⟨b, off, ha, hb, fun j hj => ?_⟩
  rw [Nat.mul_one] at hj
  rw [flat_u]
  exact hcell j hj
theorem ofok_full {l : List Nat} {N : Nat} (hN : l.length = N) (h1 : 1 ≤ N) (h2 : N ≤ 1024) : OfOk ((64 * N : Nat) : Int) l := ⟨by omega, by omega, by rw [hN, Int.toNat_natCast]; omega, fun i hi => by
  rw [Int.toNat_natCast] at hi
  unfold wb
  rw [List.getElem?_eq_none (by omega)]
  simp⟩
theorem of_full {va : Value} {l : List Nat} {N : Nat} (w : World) (hN : l.length = N) (h1 : 1 ≤ N) (h2 : N ≤ 1024) (ha : ReadsT uE 1 w va l) (hwf : ∀ x ∈ l, x < 18446744073709551616) :
    Calls Try.prog 9 #[.int .i64 ((64 * N : Nat) : Int), va] w fun e w' => ∃ g v, e = .returned (.tuple #[.pointer (some ⟨g, 0, none⟩), .int .i64 0]) ∧ BmAt w' (· < w.heap.size) g v (64 * N) l ∧ w.heap.size ≤ g ∧ Below w.heap.size w w' :=
  (of_any _ va l w (by omega) ha (by omega) hwf).mono fun e w' ⟨h, hb⟩ => by
    rcases h with ⟨_, g, v, he, hB, hg⟩ | ⟨hno, _⟩
    · rw [Int.toNat_natCast] at hB
      exact ⟨g, v, he, hB, hg, hb⟩
    · exact absurd (ofok_full hN h1 h2) hno
theorem spanP_one {bits n : Nat} (h : n < bits) : spanP bits (n : Int) 1 = 0 := by unfold spanP; rw [if_neg (by omega)]
theorem runP_one {ws : List Nat} {bits n : Nat} {b : Bool} (h : n < bits) (hl : bits ≤ 64 * ws.length) (hb : wb ws n ≠ b) : ws ≠ runP ws bits (n : Int) 1 b := fun e => by
  have h1 : wb (runP ws bits (n : Int) 1 b) n = b := by
    unfold runP
    rw [if_pos (spanP_one h), wb_puts (by simp; omega), if_pos (by simp)]
  rw [← e] at h1
  exact hb h1

set_option maxRecDepth 100000 in
set_option maxHeartbeats 8000000 in
theorem same_walk (v0 v1 : Value) (xs ys : List Nat) (at_ : Int) (w : World) (h0 : ReadsT uE 1 w v0 xs) (h1 : ReadsT uE 1 w v1 ys) (hx : ∀ x ∈ xs, x < 18446744073709551616) (hy : ∀ x ∈ ys, x < 18446744073709551616) (hlx : xs.length ≤ 9223372036854775807) (hly : ys.length ≤ 9223372036854775807) :
    Calls Try.prog 6 #[v0, v1, .int .i64 at_] w fun e w' => e = .returned (.bool true) ∧ Below w.heap.size w w' := by
  obtain ⟨N, hN⟩ : ∃ N, xs.length = N := ⟨_, rfl⟩
  obtain ⟨N2, hN2⟩ : ∃ N2, ys.length = N2 := ⟨_, rfl⟩
  have h0r := h0
  have h1r := h1
  obtain ⟨a, cap, rfl, hc⟩ := h0.form hN
  obtain ⟨a2, cap2, rfl, hc2⟩ := h1.form hN2
  rw [hN] at hlx
  rw [hN2] at hly
  refine X.fn Try.func6 rfl (n := 112) rfl rfl ?_
  by_cases hbad : N < 1 ∨ 4 < N ∨ N2 < 1 ∨ 4 < N2 ∨ at_ < 0 ∨ ((64 * N : Nat) : Int) ≤ at_
  · have fin : ∀ Q D M r c, CC r Try.prog Q 112 D M c w → CC r Try.prog Q 112 D M c w := fun _ _ _ _ _ h => h
    by_cases g1 : N < 1
    · (refine CC.seq ?_; refine CC.region ?_; refine LL.val (R.assign rfl rfl) rfl rfl rfl ?_; refine LL.nilS ?_; refine CC.seq ?_; refine CC.seq ?_; refine CC.region ?_; refine LL.val (R.move rfl rfl) rfl rfl rfl ?_; refine LL.val (R.len rfl rfl rfl rfl) rfl rfl rfl ?_; refine LL.val (R.ltT rfl rfl rfl (by omega)) rfl rfl rfl ?_; refine LL.val (R.move rfl rfl) rfl rfl rfl ?_; refine LL.skip rfl rfl ?_; refine LL.skip rfl rfl ?_; refine LL.skip rfl rfl ?_; refine LL.val (R.pick rfl rfl rfl) rfl rfl rfl ?_; refine LL.val (R.move rfl rfl) rfl rfl rfl ?_; refine LL.skip rfl rfl ?_; refine LL.skip rfl rfl ?_; refine LL.skip rfl rfl ?_; refine LL.val (R.pick rfl rfl rfl) rfl rfl rfl ?_; refine LL.val (R.move rfl rfl) rfl rfl rfl ?_; refine LL.skip rfl rfl ?_; refine LL.skip rfl rfl ?_; refine LL.skip rfl rfl ?_; refine LL.val (R.pick rfl rfl rfl) rfl rfl rfl ?_; refine LL.val (R.move rfl rfl) rfl rfl rfl ?_; refine LL.skip rfl rfl ?_; refine LL.skip rfl rfl ?_; refine LL.val (R.pick rfl rfl rfl) rfl rfl rfl ?_; refine LL.val (R.move rfl rfl) rfl rfl rfl ?_; refine LL.skip rfl rfl ?_; refine LL.skip rfl rfl ?_; refine LL.skip rfl rfl ?_; refine LL.skip rfl rfl ?_; refine LL.skip rfl rfl ?_; refine LL.val (R.pick rfl rfl rfl) rfl rfl rfl ?_; refine LL.nilS ?_; refine CC.yes rfl ?_; refine CC.seq ?_; refine CC.region ?_)
      refine LL.call (R.call rfl rfl rfl) rfl rfl rfl (works_any w) ?_
      rintro e w1 ⟨rfl, b1⟩
      refine ⟨_, rfl, ?_⟩
      (refine LL.val (R.assign rfl rfl) rfl rfl rfl ?_; refine LL.nilS ?_; refine CC.ret ?_; refine EE.thenR ?_)
      refine EE.ret _ rfl rfl ?_
      exact ⟨rfl, b1⟩
    by_cases g2 : 4 < N
    · (refine CC.seq ?_; refine CC.region ?_; refine LL.val (R.assign rfl rfl) rfl rfl rfl ?_; refine LL.nilS ?_; refine CC.seq ?_; refine CC.seq ?_; refine CC.region ?_; refine LL.val (R.move rfl rfl) rfl rfl rfl ?_; refine LL.val (R.len rfl rfl rfl rfl) rfl rfl rfl ?_; refine LL.val (R.ltF rfl rfl rfl (by omega)) rfl rfl rfl ?_; refine LL.val (R.move rfl rfl) rfl rfl rfl ?_; refine LL.val (R.move rfl rfl) rfl rfl rfl ?_; refine LL.val (R.len rfl rfl rfl rfl) rfl rfl rfl ?_; refine LL.val (R.gtT rfl rfl rfl (by omega)) rfl rfl rfl ?_; refine LL.val (R.pick rfl rfl rfl) rfl rfl rfl ?_; refine LL.val (R.move rfl rfl) rfl rfl rfl ?_; refine LL.skip rfl rfl ?_; refine LL.skip rfl rfl ?_; refine LL.skip rfl rfl ?_; refine LL.val (R.pick rfl rfl rfl) rfl rfl rfl ?_; refine LL.val (R.move rfl rfl) rfl rfl rfl ?_; refine LL.skip rfl rfl ?_; refine LL.skip rfl rfl ?_; refine LL.skip rfl rfl ?_; refine LL.val (R.pick rfl rfl rfl) rfl rfl rfl ?_; refine LL.val (R.move rfl rfl) rfl rfl rfl ?_; refine LL.skip rfl rfl ?_; refine LL.skip rfl rfl ?_; refine LL.val (R.pick rfl rfl rfl) rfl rfl rfl ?_; refine LL.val (R.move rfl rfl) rfl rfl rfl ?_; refine LL.skip rfl rfl ?_; refine LL.skip rfl rfl ?_; refine LL.skip rfl rfl ?_; refine LL.skip rfl rfl ?_; refine LL.skip rfl rfl ?_; refine LL.val (R.pick rfl rfl rfl) rfl rfl rfl ?_; refine LL.nilS ?_; refine CC.yes rfl ?_; refine CC.seq ?_; refine CC.region ?_)
      refine LL.call (R.call rfl rfl rfl) rfl rfl rfl (works_any w) ?_
      rintro e w1 ⟨rfl, b1⟩
      refine ⟨_, rfl, ?_⟩
      (refine LL.val (R.assign rfl rfl) rfl rfl rfl ?_; refine LL.nilS ?_; refine CC.ret ?_; refine EE.thenR ?_)
      refine EE.ret _ rfl rfl ?_
      exact ⟨rfl, b1⟩
    by_cases g3 : N2 < 1
    · (refine CC.seq ?_; refine CC.region ?_; refine LL.val (R.assign rfl rfl) rfl rfl rfl ?_; refine LL.nilS ?_; refine CC.seq ?_; refine CC.seq ?_; refine CC.region ?_; refine LL.val (R.move rfl rfl) rfl rfl rfl ?_; refine LL.val (R.len rfl rfl rfl rfl) rfl rfl rfl ?_; refine LL.val (R.ltF rfl rfl rfl (by omega)) rfl rfl rfl ?_; refine LL.val (R.move rfl rfl) rfl rfl rfl ?_; refine LL.val (R.move rfl rfl) rfl rfl rfl ?_; refine LL.val (R.len rfl rfl rfl rfl) rfl rfl rfl ?_; refine LL.val (R.gtF rfl rfl rfl (by omega)) rfl rfl rfl ?_; refine LL.val (R.pick rfl rfl rfl) rfl rfl rfl ?_; refine LL.val (R.move rfl rfl) rfl rfl rfl ?_; refine LL.val (R.move rfl rfl) rfl rfl rfl ?_; refine LL.val (R.len rfl rfl rfl rfl) rfl rfl rfl ?_; refine LL.val (R.ltT rfl rfl rfl (by omega)) rfl rfl rfl ?_; refine LL.val (R.pick rfl rfl rfl) rfl rfl rfl ?_; refine LL.val (R.move rfl rfl) rfl rfl rfl ?_; refine LL.skip rfl rfl ?_; refine LL.skip rfl rfl ?_; refine LL.skip rfl rfl ?_; refine LL.val (R.pick rfl rfl rfl) rfl rfl rfl ?_; refine LL.val (R.move rfl rfl) rfl rfl rfl ?_; refine LL.skip rfl rfl ?_; refine LL.skip rfl rfl ?_; refine LL.val (R.pick rfl rfl rfl) rfl rfl rfl ?_; refine LL.val (R.move rfl rfl) rfl rfl rfl ?_; refine LL.skip rfl rfl ?_; refine LL.skip rfl rfl ?_; refine LL.skip rfl rfl ?_; refine LL.skip rfl rfl ?_; refine LL.skip rfl rfl ?_; refine LL.val (R.pick rfl rfl rfl) rfl rfl rfl ?_; refine LL.nilS ?_; refine CC.yes rfl ?_; refine CC.seq ?_; refine CC.region ?_)
      refine LL.call (R.call rfl rfl rfl) rfl rfl rfl (works_any w) ?_
      rintro e w1 ⟨rfl, b1⟩
      refine ⟨_, rfl, ?_⟩
      (refine LL.val (R.assign rfl rfl) rfl rfl rfl ?_; refine LL.nilS ?_; refine CC.ret ?_; refine EE.thenR ?_)
      refine EE.ret _ rfl rfl ?_
      exact ⟨rfl, b1⟩
    by_cases g4 : 4 < N2
    · (refine CC.seq ?_; refine CC.region ?_; refine LL.val (R.assign rfl rfl) rfl rfl rfl ?_; refine LL.nilS ?_; refine CC.seq ?_; refine CC.seq ?_; refine CC.region ?_; refine LL.val (R.move rfl rfl) rfl rfl rfl ?_; refine LL.val (R.len rfl rfl rfl rfl) rfl rfl rfl ?_; refine LL.val (R.ltF rfl rfl rfl (by omega)) rfl rfl rfl ?_; refine LL.val (R.move rfl rfl) rfl rfl rfl ?_; refine LL.val (R.move rfl rfl) rfl rfl rfl ?_; refine LL.val (R.len rfl rfl rfl rfl) rfl rfl rfl ?_; refine LL.val (R.gtF rfl rfl rfl (by omega)) rfl rfl rfl ?_; refine LL.val (R.pick rfl rfl rfl) rfl rfl rfl ?_; refine LL.val (R.move rfl rfl) rfl rfl rfl ?_; refine LL.val (R.move rfl rfl) rfl rfl rfl ?_; refine LL.val (R.len rfl rfl rfl rfl) rfl rfl rfl ?_; refine LL.val (R.ltF rfl rfl rfl (by omega)) rfl rfl rfl ?_; refine LL.val (R.pick rfl rfl rfl) rfl rfl rfl ?_; refine LL.val (R.move rfl rfl) rfl rfl rfl ?_; refine LL.val (R.move rfl rfl) rfl rfl rfl ?_; refine LL.val (R.len rfl rfl rfl rfl) rfl rfl rfl ?_; refine LL.val (R.gtT rfl rfl rfl (by omega)) rfl rfl rfl ?_; refine LL.val (R.pick rfl rfl rfl) rfl rfl rfl ?_; refine LL.val (R.move rfl rfl) rfl rfl rfl ?_; refine LL.skip rfl rfl ?_; refine LL.skip rfl rfl ?_; refine LL.val (R.pick rfl rfl rfl) rfl rfl rfl ?_; refine LL.val (R.move rfl rfl) rfl rfl rfl ?_; refine LL.skip rfl rfl ?_; refine LL.skip rfl rfl ?_; refine LL.skip rfl rfl ?_; refine LL.skip rfl rfl ?_; refine LL.skip rfl rfl ?_; refine LL.val (R.pick rfl rfl rfl) rfl rfl rfl ?_; refine LL.nilS ?_; refine CC.yes rfl ?_; refine CC.seq ?_; refine CC.region ?_)
      refine LL.call (R.call rfl rfl rfl) rfl rfl rfl (works_any w) ?_
      rintro e w1 ⟨rfl, b1⟩
      refine ⟨_, rfl, ?_⟩
      (refine LL.val (R.assign rfl rfl) rfl rfl rfl ?_; refine LL.nilS ?_; refine CC.ret ?_; refine EE.thenR ?_)
      refine EE.ret _ rfl rfl ?_
      exact ⟨rfl, b1⟩
    by_cases g5 : at_ < 0
    · (refine CC.seq ?_; refine CC.region ?_; refine LL.val (R.assign rfl rfl) rfl rfl rfl ?_; refine LL.nilS ?_; refine CC.seq ?_; refine CC.seq ?_; refine CC.region ?_; refine LL.val (R.move rfl rfl) rfl rfl rfl ?_; refine LL.val (R.len rfl rfl rfl rfl) rfl rfl rfl ?_; refine LL.val (R.ltF rfl rfl rfl (by omega)) rfl rfl rfl ?_; refine LL.val (R.move rfl rfl) rfl rfl rfl ?_; refine LL.val (R.move rfl rfl) rfl rfl rfl ?_; refine LL.val (R.len rfl rfl rfl rfl) rfl rfl rfl ?_; refine LL.val (R.gtF rfl rfl rfl (by omega)) rfl rfl rfl ?_; refine LL.val (R.pick rfl rfl rfl) rfl rfl rfl ?_; refine LL.val (R.move rfl rfl) rfl rfl rfl ?_; refine LL.val (R.move rfl rfl) rfl rfl rfl ?_; refine LL.val (R.len rfl rfl rfl rfl) rfl rfl rfl ?_; refine LL.val (R.ltF rfl rfl rfl (by omega)) rfl rfl rfl ?_; refine LL.val (R.pick rfl rfl rfl) rfl rfl rfl ?_; refine LL.val (R.move rfl rfl) rfl rfl rfl ?_; refine LL.val (R.move rfl rfl) rfl rfl rfl ?_; refine LL.val (R.len rfl rfl rfl rfl) rfl rfl rfl ?_; refine LL.val (R.gtF rfl rfl rfl (by omega)) rfl rfl rfl ?_; refine LL.val (R.pick rfl rfl rfl) rfl rfl rfl ?_; refine LL.val (R.move rfl rfl) rfl rfl rfl ?_; refine LL.val (R.move rfl rfl) rfl rfl rfl ?_; refine LL.val (R.ltT rfl rfl rfl (by omega)) rfl rfl rfl ?_; refine LL.val (R.pick rfl rfl rfl) rfl rfl rfl ?_; refine LL.val (R.move rfl rfl) rfl rfl rfl ?_; refine LL.skip rfl rfl ?_; refine LL.skip rfl rfl ?_; refine LL.skip rfl rfl ?_; refine LL.skip rfl rfl ?_; refine LL.skip rfl rfl ?_; refine LL.val (R.pick rfl rfl rfl) rfl rfl rfl ?_; refine LL.nilS ?_; refine CC.yes rfl ?_; refine CC.seq ?_; refine CC.region ?_)
      refine LL.call (R.call rfl rfl rfl) rfl rfl rfl (works_any w) ?_
      rintro e w1 ⟨rfl, b1⟩
      refine ⟨_, rfl, ?_⟩
      (refine LL.val (R.assign rfl rfl) rfl rfl rfl ?_; refine LL.nilS ?_; refine CC.ret ?_; refine EE.thenR ?_)
      refine EE.ret _ rfl rfl ?_
      exact ⟨rfl, b1⟩
    have g6 : ((64 * N : Nat) : Int) ≤ at_ := by omega
    (refine CC.seq ?_; refine CC.region ?_; refine LL.val (R.assign rfl rfl) rfl rfl rfl ?_; refine LL.nilS ?_; refine CC.seq ?_; refine CC.seq ?_; refine CC.region ?_; refine LL.val (R.move rfl rfl) rfl rfl rfl ?_; refine LL.val (R.len rfl rfl rfl rfl) rfl rfl rfl ?_; refine LL.val (R.ltF rfl rfl rfl (by omega)) rfl rfl rfl ?_; refine LL.val (R.move rfl rfl) rfl rfl rfl ?_; refine LL.val (R.move rfl rfl) rfl rfl rfl ?_; refine LL.val (R.len rfl rfl rfl rfl) rfl rfl rfl ?_; refine LL.val (R.gtF rfl rfl rfl (by omega)) rfl rfl rfl ?_; refine LL.val (R.pick rfl rfl rfl) rfl rfl rfl ?_; refine LL.val (R.move rfl rfl) rfl rfl rfl ?_; refine LL.val (R.move rfl rfl) rfl rfl rfl ?_; refine LL.val (R.len rfl rfl rfl rfl) rfl rfl rfl ?_; refine LL.val (R.ltF rfl rfl rfl (by omega)) rfl rfl rfl ?_; refine LL.val (R.pick rfl rfl rfl) rfl rfl rfl ?_; refine LL.val (R.move rfl rfl) rfl rfl rfl ?_; refine LL.val (R.move rfl rfl) rfl rfl rfl ?_; refine LL.val (R.len rfl rfl rfl rfl) rfl rfl rfl ?_; refine LL.val (R.gtF rfl rfl rfl (by omega)) rfl rfl rfl ?_; refine LL.val (R.pick rfl rfl rfl) rfl rfl rfl ?_; refine LL.val (R.move rfl rfl) rfl rfl rfl ?_; refine LL.val (R.move rfl rfl) rfl rfl rfl ?_; refine LL.val (R.ltF rfl rfl rfl (by omega)) rfl rfl rfl ?_; refine LL.val (R.pick rfl rfl rfl) rfl rfl rfl ?_; refine LL.val (R.move rfl rfl) rfl rfl rfl ?_; refine LL.val (R.move rfl rfl) rfl rfl rfl ?_; refine LL.val (R.move rfl rfl) rfl rfl rfl ?_; refine LL.val (R.len rfl rfl rfl rfl) rfl rfl rfl ?_; refine LL.val (R.mulcN rfl rfl rfl rfl (by omega)) rfl rfl rfl ?_; refine LL.val (R.geT rfl rfl rfl (by omega)) rfl rfl rfl ?_; refine LL.val (R.pick rfl rfl rfl) rfl rfl rfl ?_; refine LL.nilS ?_; refine CC.yes rfl ?_; refine CC.seq ?_; refine CC.region ?_)
    refine LL.call (R.call rfl rfl rfl) rfl rfl rfl (works_any w) ?_
    rintro e w1 ⟨rfl, b1⟩
    refine ⟨_, rfl, ?_⟩
    (refine LL.val (R.assign rfl rfl) rfl rfl rfl ?_; refine LL.nilS ?_; refine CC.ret ?_; refine EE.thenR ?_)
    refine EE.ret _ rfl rfl ?_
    exact ⟨rfl, b1⟩
  obtain ⟨n, rfl⟩ : ∃ n : Nat, at_ = n := ⟨at_.toNat, by omega⟩
  have hn : n < 64 * N := by omega
  (refine CC.seq ?_; refine CC.region ?_; refine LL.val (R.assign rfl rfl) rfl rfl rfl ?_; refine LL.nilS ?_; refine CC.seq ?_; refine CC.seq ?_; refine CC.region ?_; refine LL.val (R.move rfl rfl) rfl rfl rfl ?_; refine LL.val (R.len rfl rfl rfl rfl) rfl rfl rfl ?_; refine LL.val (R.ltF rfl rfl rfl (by omega)) rfl rfl rfl ?_; refine LL.val (R.move rfl rfl) rfl rfl rfl ?_; refine LL.val (R.move rfl rfl) rfl rfl rfl ?_; refine LL.val (R.len rfl rfl rfl rfl) rfl rfl rfl ?_; refine LL.val (R.gtF rfl rfl rfl (by omega)) rfl rfl rfl ?_; refine LL.val (R.pick rfl rfl rfl) rfl rfl rfl ?_; refine LL.val (R.move rfl rfl) rfl rfl rfl ?_; refine LL.val (R.move rfl rfl) rfl rfl rfl ?_; refine LL.val (R.len rfl rfl rfl rfl) rfl rfl rfl ?_; refine LL.val (R.ltF rfl rfl rfl (by omega)) rfl rfl rfl ?_; refine LL.val (R.pick rfl rfl rfl) rfl rfl rfl ?_; refine LL.val (R.move rfl rfl) rfl rfl rfl ?_; refine LL.val (R.move rfl rfl) rfl rfl rfl ?_; refine LL.val (R.len rfl rfl rfl rfl) rfl rfl rfl ?_; refine LL.val (R.gtF rfl rfl rfl (by omega)) rfl rfl rfl ?_; refine LL.val (R.pick rfl rfl rfl) rfl rfl rfl ?_; refine LL.val (R.move rfl rfl) rfl rfl rfl ?_; refine LL.val (R.move rfl rfl) rfl rfl rfl ?_; refine LL.val (R.ltF rfl rfl rfl (by omega)) rfl rfl rfl ?_; refine LL.val (R.pick rfl rfl rfl) rfl rfl rfl ?_; refine LL.val (R.move rfl rfl) rfl rfl rfl ?_; refine LL.val (R.move rfl rfl) rfl rfl rfl ?_; refine LL.val (R.move rfl rfl) rfl rfl rfl ?_; refine LL.val (R.len rfl rfl rfl rfl) rfl rfl rfl ?_; refine LL.val (R.mulcN rfl rfl rfl rfl (by omega)) rfl rfl rfl ?_; refine LL.val (R.geF rfl rfl rfl (by omega)) rfl rfl rfl ?_; refine LL.val (R.pick rfl rfl rfl) rfl rfl rfl ?_; refine LL.nilS ?_; refine CC.no rfl ?_; refine CC.skip ?_; refine EE.thenN ?_; refine CC.seq ?_; refine CC.region ?_; refine LL.val (R.move rfl rfl) rfl rfl rfl ?_; refine LL.val (R.len rfl rfl rfl rfl) rfl rfl rfl ?_; refine LL.val (R.mulcN rfl rfl rfl rfl (by omega)) rfl rfl rfl ?_; refine LL.val (R.move rfl rfl) rfl rfl rfl ?_)
  refine LL.call (R.call rfl rfl rfl) rfl rfl rfl (of_full w hN (by omega) (by omega) h0r hx) ?_
  rintro e w1 ⟨g1, v1, rfl, m1, hg1, b1⟩
  refine ⟨_, rfl, ?_⟩
  (refine LL.val (R.move rfl rfl) rfl rfl rfl ?_; refine LL.val (R.extract rfl rfl rfl) rfl rfl rfl ?_; refine LL.val (R.extract rfl rfl rfl) rfl rfl rfl ?_; refine LL.val (R.assign rfl rfl) rfl rfl rfl ?_; refine LL.val (R.assign rfl rfl) rfl rfl rfl ?_; refine LL.nilS ?_; refine CC.seq ?_; refine CC.region ?_; refine LL.val (R.move rfl rfl) rfl rfl rfl ?_; refine LL.val (R.len rfl rfl rfl rfl) rfl rfl rfl ?_; refine LL.val (R.mulcN rfl rfl rfl rfl (by omega)) rfl rfl rfl ?_; refine LL.val (R.move rfl rfl) rfl rfl rfl ?_)
  refine LL.call (R.call rfl rfl rfl) rfl rfl rfl (of_full w1 hN2 (by omega) (by omega) (h1r.below b1) hy) ?_
  rintro e w2 ⟨g2, v2, rfl, m2, hg2, b2⟩
  refine ⟨_, rfl, ?_⟩
  have y1 := b1.size
  have y2 := b2.size
  have q2 : Below w.heap.size w w2 := b1.trans (b2.mono y1)
  have m12 := m1.below b2
  (refine LL.val (R.move rfl rfl) rfl rfl rfl ?_; refine LL.val (R.extract rfl rfl rfl) rfl rfl rfl ?_; refine LL.val (R.extract rfl rfl rfl) rfl rfl rfl ?_; refine LL.val (R.assign rfl rfl) rfl rfl rfl ?_; refine LL.val (R.assign rfl rfl) rfl rfl rfl ?_; refine LL.nilS ?_; refine CC.seq ?_; refine CC.seq ?_; refine CC.region ?_; refine LL.val (R.move rfl rfl) rfl rfl rfl ?_)
  refine LL.call (R.call rfl rfl rfl) rfl rfl rfl (num_any _ _) ?_
  rintro e w' ⟨rfl, rfl⟩
  refine ⟨_, rfl, ?_⟩
  (refine LL.val (R.move rfl rfl) rfl rfl rfl ?_)
  refine LL.call (R.call rfl rfl rfl) rfl rfl rfl (num_any _ _) ?_
  rintro e w' ⟨rfl, rfl⟩
  refine ⟨_, rfl, ?_⟩
  (refine LL.val (R.addI rfl rfl rfl (by omega)) rfl rfl rfl ?_; refine LL.val (R.neF rfl rfl rfl (by omega)) rfl rfl rfl ?_; refine LL.val (R.move rfl rfl) rfl rfl rfl ?_; refine LL.val (R.move rfl rfl) rfl rfl rfl ?_; refine LL.val (R.move rfl rfl) rfl rfl rfl ?_)
  refine LL.call (R.call rfl rfl rfl) rfl rfl rfl (bsame_any w2 m12 m2) ?_
  rintro e w3 ⟨rfl, b3⟩
  refine ⟨_, rfl, ?_⟩
  have q3 : Below w.heap.size w w3 := q2.trans (b3.mono q2.size)
  have m13 := m12.below b3
  (refine LL.val (R.move rfl rfl) rfl rfl rfl ?_; refine LL.val (R.move rfl rfl) rfl rfl rfl ?_)
  refine LL.call (R.call rfl rfl rfl) rfl rfl rfl (wsame_any _ _ xs ys w3 (h0r.below q3) (h1r.below q3) (by omega) (by omega)) ?_
  rintro e w4 ⟨rfl, b4⟩
  refine ⟨_, rfl, ?_⟩
  have q4 : Below w.heap.size w w4 := q3.trans (b4.mono q3.size)
  have m14 := m13.below b4
  have hd : decide (64 * N = 64 * N2 ∧ xs = ys) = decide (xs = ys) := by
    rw [Bool.eq_iff_iff, decide_eq_true_eq, decide_eq_true_eq]
    exact ⟨fun h => h.2, fun h => ⟨by rw [← hN, ← hN2, h], h⟩⟩
  rw [hd]
  refine LL.val (R.neBool rfl rfl rfl rfl (show (decide (xs = ys) != decide (xs = ys)) = false by simp)) rfl rfl rfl ?_
  (refine LL.val (R.pick rfl rfl rfl) rfl rfl rfl ?_; refine LL.nilS ?_; refine CC.no rfl ?_; refine CC.skip ?_; refine EE.thenN ?_; refine CC.seq ?_; refine CC.region ?_; refine LL.val (R.move rfl rfl) rfl rfl rfl ?_)
  refine LL.call (R.call rfl rfl rfl) rfl rfl rfl (bcopy_made w4 m14) ?_
  rintro e w5 ⟨g5, v5, rfl, m5, hg5, b5⟩
  refine ⟨_, rfl, ?_⟩
  have q5 : Below w.heap.size w w5 := q4.trans (b5.mono q4.size)
  have m15 := m14.below b5
  have hlo := m1.lo
  have y5 := b5.size
  have G6 := get_made (n : Int) w5 m15
  rw [if_neg (by omega), Int.toNat_natCast] at G6
  (refine LL.val (R.assign rfl rfl) rfl rfl rfl ?_; refine LL.nilS ?_; refine CC.seq ?_; refine CC.region ?_; refine LL.val (R.move rfl rfl) rfl rfl rfl ?_; refine LL.val (R.move rfl rfl) rfl rfl rfl ?_)
  refine LL.call (R.call rfl rfl rfl) rfl rfl rfl G6 ?_
  rintro e w6 ⟨rfl, b6⟩
  refine ⟨_, rfl, ?_⟩
  have b46 : Below w4.heap.size w4 w6 := b5.trans (b6.mono y5)
  have m56 := m5.below b6
  have hsp := spanP_one (bits := 64 * N) hn
  cases hwb : wb xs n with
  | true =>
    (refine LL.val (R.move rfl rfl) rfl rfl rfl ?_; refine LL.val (R.extract rfl rfl rfl) rfl rfl rfl ?_; refine LL.val (R.extract rfl rfl rfl) rfl rfl rfl ?_; refine LL.val (R.assign rfl rfl) rfl rfl rfl ?_; refine LL.val (R.assign rfl rfl) rfl rfl rfl ?_; refine LL.nilS ?_; refine CC.seq ?_; refine CC.region ?_; refine LL.val (R.assign rfl rfl) rfl rfl rfl ?_; refine LL.nilS ?_; refine CC.seq ?_; refine CC.seq ?_; refine CC.region ?_; refine LL.val (R.move rfl rfl) rfl rfl rfl ?_; refine LL.nilS ?_; refine CC.yes rfl ?_; refine CC.region ?_; refine LL.val (R.move rfl rfl) rfl rfl rfl ?_; refine LL.val (R.move rfl rfl) rfl rfl rfl ?_)
    have H7 := mfree_made (n : Int) 1 w6 m56 (by omega)
    rw [hsp] at H7
    refine LL.call (R.call rfl rfl rfl) rfl rfl rfl H7 ?_
    rintro e w7 ⟨rfl, m7, k7⟩
    refine ⟨_, rfl, ?_⟩
    have b47 : Below w4.heap.size w4 w7 := b46.trans k7.bel
    have m17 := m14.below b47
    have hne : xs ≠ runP xs (64 * N) (n : Int) 1 false := runP_one hn (by omega) (by rw [hwb]; simp)
    (refine LL.val (R.assign rfl rfl) rfl rfl rfl ?_; refine LL.nilS ?_; refine CC.seq ?_; refine CC.region ?_; refine LL.val (R.move rfl rfl) rfl rfl rfl ?_)
    refine LL.call (R.call rfl rfl rfl) rfl rfl rfl (num_any _ _) ?_
    rintro e w' ⟨rfl, rfl⟩
    refine ⟨_, rfl, ?_⟩
    (refine LL.val (R.move rfl rfl) rfl rfl rfl ?_)
    refine LL.call (R.call rfl rfl rfl) rfl rfl rfl (num_any _ _) ?_
    rintro e w' ⟨rfl, rfl⟩
    refine ⟨_, rfl, ?_⟩
    (refine LL.val (R.addI rfl rfl rfl (by omega)) rfl rfl rfl ?_; refine LL.val (R.eqT rfl rfl rfl (by omega)) rfl rfl rfl ?_; refine LL.val (R.move rfl rfl) rfl rfl rfl ?_; refine LL.val (R.move rfl rfl) rfl rfl rfl ?_; refine LL.val (R.move rfl rfl) rfl rfl rfl ?_)
    refine LL.call (R.call rfl rfl rfl) rfl rfl rfl (bsame_any w7 m17 m7) ?_
    rintro e w8 ⟨rfl, b8⟩
    rw [decide_eq_false (fun h => hne h.2)]
    refine ⟨_, rfl, ?_⟩
    have b48 : Below w4.heap.size w4 w8 := b47.trans (b8.mono b47.size)
    have m18 := m14.below b48
    (refine LL.val (R.not rfl rfl) rfl rfl rfl ?_; refine LL.val (R.pick rfl rfl rfl) rfl rfl rfl ?_; refine LL.val (R.move rfl rfl) rfl rfl rfl ?_; refine LL.val (R.move rfl rfl) rfl rfl rfl ?_)
    refine LL.call (R.call rfl rfl rfl) rfl rfl rfl (bwords_made w8 m18) ?_
    rintro e w9 ⟨v9, rfl, o9, b9⟩
    refine ⟨_, rfl, ?_⟩
    have b49 : Below w4.heap.size w4 w9 := b48.trans (b9.mono b48.size)
    have q9 : Below w.heap.size w w9 := q4.trans (b49.mono q4.size)
    (refine LL.val (R.move rfl rfl) rfl rfl rfl ?_)
    refine LL.call (R.call rfl rfl rfl) rfl rfl rfl (wsame_any _ _ xs xs w9 (o9.reads uEnc) (h0r.below q9) (by omega) (by omega)) ?_
    rintro e w10 ⟨rfl, b10⟩
    rw [decide_eq_true rfl]
    refine ⟨_, rfl, ?_⟩
    have q10 : Below w.heap.size w w10 := q9.trans (b10.mono q9.size)
    (refine LL.val (R.pick rfl rfl rfl) rfl rfl rfl ?_; refine LL.val (R.move rfl rfl) rfl rfl rfl ?_)
    refine LL.call (R.call rfl rfl rfl) rfl rfl rfl (works_any w10) ?_
    rintro e w11 ⟨rfl, b11⟩
    refine ⟨_, rfl, ?_⟩
    (refine LL.val (R.pick rfl rfl rfl) rfl rfl rfl ?_; refine LL.val (R.assign rfl rfl) rfl rfl rfl ?_; refine LL.nilS ?_; refine CC.ret ?_)
    refine EE.ret _ rfl rfl ?_
    exact ⟨rfl, q10.trans (b11.mono q10.size)⟩
  | false =>
    (refine LL.val (R.move rfl rfl) rfl rfl rfl ?_; refine LL.val (R.extract rfl rfl rfl) rfl rfl rfl ?_; refine LL.val (R.extract rfl rfl rfl) rfl rfl rfl ?_; refine LL.val (R.assign rfl rfl) rfl rfl rfl ?_; refine LL.val (R.assign rfl rfl) rfl rfl rfl ?_; refine LL.nilS ?_; refine CC.seq ?_; refine CC.region ?_; refine LL.val (R.assign rfl rfl) rfl rfl rfl ?_; refine LL.nilS ?_; refine CC.seq ?_; refine CC.seq ?_; refine CC.region ?_; refine LL.val (R.move rfl rfl) rfl rfl rfl ?_; refine LL.nilS ?_; refine CC.no rfl ?_; refine CC.region ?_; refine LL.val (R.move rfl rfl) rfl rfl rfl ?_; refine LL.val (R.move rfl rfl) rfl rfl rfl ?_)
    have H7 := mset_made (n : Int) 1 w6 m56 (by omega)
    rw [hsp] at H7
    refine LL.call (R.call rfl rfl rfl) rfl rfl rfl H7 ?_
    rintro e w7 ⟨rfl, m7, k7⟩
    refine ⟨_, rfl, ?_⟩
    have b47 : Below w4.heap.size w4 w7 := b46.trans k7.bel
    have m17 := m14.below b47
    have hne : xs ≠ runP xs (64 * N) (n : Int) 1 true := runP_one hn (by omega) (by rw [hwb]; simp)
    (refine LL.val (R.assign rfl rfl) rfl rfl rfl ?_; refine LL.nilS ?_; refine CC.seq ?_; refine CC.region ?_; refine LL.val (R.move rfl rfl) rfl rfl rfl ?_)
    refine LL.call (R.call rfl rfl rfl) rfl rfl rfl (num_any _ _) ?_
    rintro e w' ⟨rfl, rfl⟩
    refine ⟨_, rfl, ?_⟩
    (refine LL.val (R.move rfl rfl) rfl rfl rfl ?_)
    refine LL.call (R.call rfl rfl rfl) rfl rfl rfl (num_any _ _) ?_
    rintro e w' ⟨rfl, rfl⟩
    refine ⟨_, rfl, ?_⟩
    (refine LL.val (R.addI rfl rfl rfl (by omega)) rfl rfl rfl ?_; refine LL.val (R.eqT rfl rfl rfl (by omega)) rfl rfl rfl ?_; refine LL.val (R.move rfl rfl) rfl rfl rfl ?_; refine LL.val (R.move rfl rfl) rfl rfl rfl ?_; refine LL.val (R.move rfl rfl) rfl rfl rfl ?_)
    refine LL.call (R.call rfl rfl rfl) rfl rfl rfl (bsame_any w7 m17 m7) ?_
    rintro e w8 ⟨rfl, b8⟩
    rw [decide_eq_false (fun h => hne h.2)]
    refine ⟨_, rfl, ?_⟩
    have b48 : Below w4.heap.size w4 w8 := b47.trans (b8.mono b47.size)
    have m18 := m14.below b48
    (refine LL.val (R.not rfl rfl) rfl rfl rfl ?_; refine LL.val (R.pick rfl rfl rfl) rfl rfl rfl ?_; refine LL.val (R.move rfl rfl) rfl rfl rfl ?_; refine LL.val (R.move rfl rfl) rfl rfl rfl ?_)
    refine LL.call (R.call rfl rfl rfl) rfl rfl rfl (bwords_made w8 m18) ?_
    rintro e w9 ⟨v9, rfl, o9, b9⟩
    refine ⟨_, rfl, ?_⟩
    have b49 : Below w4.heap.size w4 w9 := b48.trans (b9.mono b48.size)
    have q9 : Below w.heap.size w w9 := q4.trans (b49.mono q4.size)
    (refine LL.val (R.move rfl rfl) rfl rfl rfl ?_)
    refine LL.call (R.call rfl rfl rfl) rfl rfl rfl (wsame_any _ _ xs xs w9 (o9.reads uEnc) (h0r.below q9) (by omega) (by omega)) ?_
    rintro e w10 ⟨rfl, b10⟩
    rw [decide_eq_true rfl]
    refine ⟨_, rfl, ?_⟩
    have q10 : Below w.heap.size w w10 := q9.trans (b10.mono q9.size)
    (refine LL.val (R.pick rfl rfl rfl) rfl rfl rfl ?_; refine LL.val (R.move rfl rfl) rfl rfl rfl ?_)
    refine LL.call (R.call rfl rfl rfl) rfl rfl rfl (works_any w10) ?_
    rintro e w11 ⟨rfl, b11⟩
    refine ⟨_, rfl, ?_⟩
    (refine LL.val (R.pick rfl rfl rfl) rfl rfl rfl ?_; refine LL.val (R.assign rfl rfl) rfl rfl rfl ?_; refine LL.nilS ?_; refine CC.ret ?_)
    refine EE.ret _ rfl rfl ?_
    exact ⟨rfl, q10.trans (b11.mono q10.size)⟩
end Go.Proofs.Ytojoaplbgcdapaa
