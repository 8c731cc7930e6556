/- bitmap: set, free; each; Set, Free. -/
import Derived.Test.YtojoaplbgcdapaaSpan
namespace Go.Proofs.Ytojoaplbgcdapaa
set_option linter.unusedVariables false
set_option linter.unusedSimpArgs false
open Go.RowKit Go.Shelf

/-- A bit of words, anew. -/
def putW (ws : List Nat) (i : Nat) (b : Bool) : List Nat := ws.set (i / 64) (if b then ws[i / 64]?.getD 0 ||| 2 ^ (i % 64) else ws[i / 64]?.getD 0 &&& (18446744073709551615 - 2 ^ (i % 64)))
theorem putW_len (ws : List Nat) (i : Nat) (b : Bool) : (putW ws i b).length = ws.length := by simp [putW]
theorem pow64 (i : Nat) : (2 : Nat) ^ (i % 64) < 18446744073709551616 := by
  have := Nat.pow_lt_pow_right (a := 2) (by decide) (Nat.mod_lt i (by decide : 64 > 0))
  simpa using this
theorem testBit_inv (j k : Nat) (hj : j < 64) (hk : k < 64) : (18446744073709551615 - 2 ^ j : Nat).testBit k = !decide (j = k) := by
  have h1 : (2 : Nat) ^ j < 2 ^ 64 := Nat.pow_lt_pow_right (by decide) hj
  have h2 := Nat.testBit_two_pow_sub_succ h1 k
  have e : (2 : Nat) ^ 64 - (2 ^ j + 1) = 18446744073709551615 - 2 ^ j := by
    have : (2 : Nat) ^ 64 = 18446744073709551616 := by decide
    omega
  rw [e] at h2
  rw [h2, Nat.testBit_two_pow]
  simp [hk]
theorem wb_put {ws : List Nat} {i j : Nat} {b : Bool} (hi : i < 64 * ws.length) : wb (putW ws i b) j = if j = i then b else wb ws j := by
  have hil : i / 64 < ws.length := by omega
  unfold wb putW
  by_cases hd : j / 64 = i / 64
  · rw [hd, List.getElem?_set_self hil]
    have hx : ws[i / 64]? = some ws[i / 64] := List.getElem?_eq_getElem hil
    rw [hx]
    simp only [Option.getD_some]
    have hjm : j % 64 < 64 := Nat.mod_lt _ (by decide)
    have him : i % 64 < 64 := Nat.mod_lt _ (by decide)
    have hiff : (i % 64 = j % 64) ↔ j = i := by
      constructor
      · intro h; omega
      · rintro rfl; rfl
    cases b
    · simp only [Bool.false_eq_true, if_false]
      rw [Nat.testBit_and, testBit_inv _ _ him hjm]
      by_cases h : j = i
      · rw [if_pos h, h]; simp
      · rw [if_neg h]
        have : ¬ (i % 64 = j % 64) := fun e => h (hiff.1 e)
        simp [this]
    · simp only [if_true]
      rw [Nat.testBit_or, Nat.testBit_two_pow]
      by_cases h : j = i
      · rw [if_pos h, h]; simp
      · rw [if_neg h]
        have : ¬ (i % 64 = j % 64) := fun e => h (hiff.1 e)
        simp [this]
  · rw [List.getElem?_set_ne (Ne.symm hd), if_neg (by rintro rfl; exact hd rfl)]
theorem putW_wf {ws : List Nat} {i : Nat} {b : Bool} (h : ∀ x ∈ ws, x < 18446744073709551616) : ∀ x ∈ putW ws i b, x < 18446744073709551616 := by
  intro x hx
  have hold : ws[i / 64]?.getD 0 < 18446744073709551616 := by
    cases hg : ws[i / 64]? with
    | none => decide
    | some y => exact h y (List.mem_of_getElem? hg)
  rcases List.mem_or_eq_of_mem_set hx with h1 | h1
  · exact h x h1
  · subst h1
    cases b
    · simp only [Bool.false_eq_true, if_false]
      exact Nat.lt_of_le_of_lt Nat.and_le_left hold
    · simp only [if_true]
      exact Nat.or_lt_two_pow (n := 64) hold (pow64 i)

section
variable {P : Program} {w : World} {o : Oper} {n : Nat} {D : List Deferred} {M : Slots} {x y : Operand} {t u : TypeId} {a b : Nat} {r : Option Nat} {ops : Array Oper} {Q : Exit → Act → World → Prop} {rest : List Oper}
theorem R.andNotU (ho : o.op = .binOp .andNot t x y u) (hx : evM M x = some (.int .u64 (a : Int))) (hy : evM M y = some (.int .u64 (b : Int))) (ha : a < 18446744073709551616) (hb : b < 18446744073709551616) : Runs P n D M o w (.value (.int .u64 ((a &&& (18446744073709551615 - b) : Nat) : Int))) w :=
  R.bin ho hx hy (by
    have e1 : (BitVec.ofInt 64 (a : Int)).toNat = a := by
      rw [BitVec.toNat_ofInt]
      omega
    have e2 : (BitVec.ofInt 64 (b : Int)).toNat = b := by
      rw [BitVec.toNat_ofInt]
      omega
    have e3 : (BitVec.ofInt 64 (a : Int) &&& ~~~BitVec.ofInt 64 (b : Int)).toNat = a &&& (18446744073709551615 - b) := by
      rw [BitVec.toNat_and, BitVec.toNat_not, e1, e2]
    have hle : a &&& (18446744073709551615 - b) ≤ a := Nat.and_le_left
    have e4 : IntKind.u64.wrap ((a &&& (18446744073709551615 - b) : Nat) : Int) = ((a &&& (18446744073709551615 - b) : Nat) : Int) := IntWalk.u64_in _ (by omega)
    have e5 : (Op.intBits .andNot .u64 (a : Int) (b : Int)).run P w = .ok (.int .u64 ((a &&& (18446744073709551615 - b) : Nat) : Int)) w := by
      show (pure (Value.int .u64 (IntKind.u64.wrap ((BitVec.ofInt 64 (a : Int) &&& ~~~BitVec.ofInt 64 (b : Int)).toNat : Int))) : Sem Value).run P w = _
      rw [e3, e4]
      rfl
    simp only [eqGuard, binOp, Sem.run_bind]
    simpa using e5)
/-- A number of a slice that the call owns, stored anew. -/
theorem LL.storeU {g N cap i base e : Nat} {ts : List Nat} {z : Nat} (ho : o.op = .store t x y) (hx : evM M x = some (.pointer (some ⟨g, i, none⟩))) (hy : evM M y = some (.int .u64 (z : Int))) (hz : szB P t = some 1)
    (hown : OwnsT uE 1 w base e (.slice (some ⟨g, 0, none⟩) N cap) ts) (hi : i < ts.length) (hd : o.dst = none) (hg : wantB ops M o.guard = some true)
    (c : ∀ w', OwnsT uE 1 w' base e (.slice (some ⟨g, 0, none⟩) N cap) (ts.set i z) → w.grownBy w' (some g) → LL r P ops Q n D M rest w') : LL r P ops Q n D M (o :: rest) w := by
  rcases id hown.2 with ⟨e1, _⟩ | ⟨g', cap', cur, e1, hbg, hg', hnc, hcm, hcs, htake⟩
  · cases e1
  · cases e1
    have hrow : RowL w g e cur.toList := hg'
    have hcl : cur.toList.length = cap := by simpa using hcs
    refine LL.store (v := .int .u64 (z : Int)) ho hx hy hz hrow (by omega) rfl rfl hd hg ?_
    intro w' r' g' z'
    refine c w' ⟨uEnc.flat _, .inr ⟨g, cap, _, by rw [List.length_set], hbg, r', by rw [List.length_set]; exact hnc, hcm, by simpa using hcs, ?_⟩⟩ g'
    rw [List.length_set, Nat.mul_one, List.take_set]
    rw [Nat.mul_one] at htake
    rw [htake, flat_u, flat_u]
    simp [ints, List.map_set]
end
end Go.Proofs.Ytojoaplbgcdapaa
