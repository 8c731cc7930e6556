/- bitmap: a bit's word, its mask; has. -/
import Derived.Test.YtojoaplbgcdapaaWBits
import Derived.Test.YtojoaplbgcdapaaTRows
import Derived.Test.YtojoaplbgcdapaaKept
namespace Go.Proofs.Ytojoaplbgcdapaa
set_option linter.unusedVariables false
set_option linter.unusedSimpArgs false
open Go.RowKit Go.Shelf

section
variable {P : Program} {w : World} {o : Oper} {n : Nat} {D : List Deferred} {M : Slots} {x y : Operand} {t u : TypeId} {a b z : Nat}
theorem R.remU (ho : o.op = .binOp .rem t x y u) (hx : evM M x = some (.int .u64 (a : Int))) (hy : evM M y = some (.int .u64 (b : Int))) (h : 0 < b) (ha : a < 18446744073709551616) : Runs P n D M o w (.value (.int .u64 ((a % b : Nat) : Int))) w := R.bin ho hx hy (by
  have e : ((a : Int).tmod (b : Int)) = ((a % b : Nat) : Int) := by rw [Int.tmod_eq_emod_of_nonneg (by omega)]; simp
  obtain ⟨q, hq⟩ : ∃ q, a % b = q := ⟨_, rfl⟩
  rw [hq] at e ⊢
  have hb : b ≠ 0 := by omega
  simp [eqGuard, binOp, Op.intDiv, hb, e])
theorem R.shl1 (ho : o.op = .binOp .shl t x y u) (hx : evM M x = some (.int .u64 1)) (hy : evM M y = some (.int .u64 (b : Int))) (hb : b < 64) : Runs P n D M o w (.value (.int .u64 ((2 ^ b : Nat) : Int))) w := R.bin ho hx hy (by
  have h1 : ¬ ((b : Int) < 0) := by omega
  have h2 : min b 64 = b := by omega
  have h3 : (2 : Nat) ^ b < 18446744073709551616 := by
    have := Nat.pow_lt_pow_right (a := 2) (by decide) hb
    simpa using this
  have h5 : ((2 : Int) ^ b) = ((2 ^ b : Nat) : Int) := by simp
  have h4 : IntKind.u64.wrap ((2 : Int) ^ b) = (2 : Int) ^ b := by
    rw [h5]
    obtain ⟨q, hq⟩ : ∃ q : Nat, 2 ^ b = q := ⟨_, rfl⟩
    rw [hq] at h3 ⊢
    exact IntWalk.u64_in _ (by omega)
  simp [eqGuard, binOp, Op.shift, h1, IntKind.bits, h2, h4])
end

theorem and_pow (x j : Nat) : x &&& 2 ^ j = if x.testBit j then 2 ^ j else 0 := by
  apply Nat.eq_of_testBit_eq
  intro i
  rw [Nat.testBit_and, Nat.testBit_two_pow]
  by_cases h : j = i
  · subst h
    cases hx : x.testBit j
    · simp
    · simp [Nat.testBit_two_pow]
  · cases hx : x.testBit j
    · simp [h]
    · simp [Nat.testBit_two_pow, h]
/-- Numbers of one cell. -/
def uE (x : Nat) : List Value := [.int .u64 (x : Int)]
theorem uEnc : Enc uE 1 := ⟨fun _ => rfl, fun t u hu => by
  simp only [uE, List.mem_cons, List.not_mem_nil, or_false] at hu
  subst hu
  rfl, by decide⟩
theorem flat_u (ws : List Nat) : ws.flatMap uE = ints .u64 ws := by
  induction ws with
  | nil => rfl
  | cons x ws ih => rw [List.flatMap_cons, ih]; rfl
/-- A bit of words. -/
def wb (ws : List Nat) (i : Nat) : Bool := (ws[i / 64]?.getD 0).testBit (i % 64)

theorem word_any (i : Nat) (w : World) (hi : i ≤ 9223372036854775807) : Calls Try.prog 48 #[.int .i64 (i : Int)] w fun e w' => e = .returned (.int .i64 ((i / 64 : Nat) : Int)) ∧ w = w' := by
  refine X.fn Try.func48 rfl (n := 5) rfl rfl ?_
  (refine CC.seq ?_; refine CC.region ?_; refine LL.val (R.assign rfl rfl) rfl rfl rfl ?_; refine LL.nilS ?_; refine CC.seq ?_; refine CC.region ?_; refine LL.val (R.move rfl rfl) rfl rfl rfl ?_; refine LL.val (R.quoNc rfl rfl rfl rfl (by omega) (by omega)) rfl rfl rfl ?_; refine LL.val (R.assign rfl rfl) rfl rfl rfl ?_; refine LL.nilS ?_; refine CC.ret ?_)
  refine EE.ret _ rfl rfl ?_
  exact ⟨rfl, rfl⟩
theorem mask_any (i : Nat) (w : World) (hi : i ≤ 9223372036854775807) : Calls Try.prog 49 #[.int .i64 (i : Int)] w fun e w' => e = .returned (.int .u64 ((2 ^ (i % 64) : Nat) : Int)) ∧ w = w' := by
  have hw : IntKind.u64.wrap (i : Int) = (i : Int) := IntWalk.u64_in _ (by omega)
  refine X.fn Try.func49 rfl (n := 7) rfl rfl ?_
  (refine CC.seq ?_; refine CC.region ?_; refine LL.val (R.assign rfl rfl) rfl rfl rfl ?_; refine LL.nilS ?_; refine CC.seq ?_; refine CC.region ?_; refine LL.val (R.move rfl rfl) rfl rfl rfl ?_)
  refine LL.val (R.convI (z := (i : Int)) rfl rfl rfl rfl hw) rfl rfl rfl ?_
  refine LL.val (R.remU (b := 64) rfl rfl rfl (by decide) (by omega)) rfl rfl rfl ?_
  refine LL.val (R.shl1 rfl rfl rfl (Nat.mod_lt _ (by decide))) rfl rfl rfl ?_
  (refine LL.val (R.assign rfl rfl) rfl rfl rfl ?_; refine LL.nilS ?_; refine CC.ret ?_)
  refine EE.ret _ rfl rfl ?_
  exact ⟨rfl, rfl⟩

set_option maxRecDepth 100000 in
set_option maxHeartbeats 2000000 in
theorem has_any {v : Value} {ws : List Nat} (i : Nat) (w : World) (hv : ReadsT uE 1 w v ws) (hi : i < 64 * ws.length) (hl : ws.length ≤ 1048576) (hws : ∀ x ∈ ws, x < 18446744073709551616) :
    Calls Try.prog 35 #[.agg #[v], .int .i64 (i : Int)] w fun e w' => e = .returned (.bool (wb ws i)) ∧ Below w.heap.size w w' := by
  obtain ⟨a, cap, rfl, hc⟩ := hv.form (n := ws.length) rfl
  have hil : i / 64 < ws.length := by omega
  obtain ⟨x, hx⟩ : ∃ x, ws[i / 64]? = some x := ⟨_, List.getElem?_eq_getElem hil⟩
  have hxl : x < 18446744073709551616 := hws x (List.mem_of_getElem? hx)
  have hwb : wb ws i = x.testBit (i % 64) := by unfold wb; rw [hx]; rfl
  obtain ⟨b, off, rfl, hbl, hcs⟩ := hv.get uEnc hx
  refine X.fn Try.func35 rfl (n := 15) rfl rfl ?_
  (refine CC.seq ?_; refine CC.region ?_)
  refine LL.box [.slice (some ⟨b, off, none⟩) ws.length cap] rfl rfl rfl rfl rfl ?_
  intro w1 g1 e1 r1 z1 b1
  have hc0 : w1.drew.cell? ⟨b, off + i / 64, none⟩ = some (.int .u64 (x : Int)) := by simpa using ((hcs.below b1 hbl).below (Below.refl w1.heap.size w1).drew (Nat.lt_of_lt_of_le hbl b1.size)).at (j := 0) (u := .int .u64 (x : Int)) rfl
  have r1d := r1.drew
  have hm : (2 : Nat) ^ (i % 64) < 18446744073709551616 := by
    have := Nat.pow_lt_pow_right (a := 2) (by decide) (Nat.mod_lt i (by decide : 64 > 0))
    simpa using this
  (refine LL.val (R.assign rfl rfl) rfl rfl rfl ?_; refine LL.nilS ?_; refine CC.seq ?_)
  refine CC.quiet (by kernel_rfl) (by kernel_rfl) ?_
  (refine SS.val (R.field rfl rfl (I.fld rfl)) rfl rfl ?_; refine SS.val (R.load rfl rfl (I.ld1 rfl (RowL.cell (by assumption) rfl))) rfl rfl ?_; refine SS.val (R.move rfl rfl) rfl rfl ?_)
  refine SS.call (R.call rfl rfl rfl) rfl rfl (word_any i _ (by omega)) ?_
  (refine SS.val (R.index rfl rfl rfl (I.ixS1 rfl (by omega))) rfl rfl ?_; refine SS.val (R.load rfl rfl (I.ld1 rfl (by assumption))) rfl rfl ?_; refine SS.val (R.move rfl rfl) rfl rfl ?_)
  refine SS.call (R.call rfl rfl rfl) rfl rfl (mask_any i _ (by omega)) ?_
  refine SS.val (R.andU rfl rfl rfl hxl hm) rfl rfl ?_
  have hand := and_pow x (i % 64)
  have hpos : 0 < (2 : Nat) ^ (i % 64) := Nat.pow_pos (by decide)
  rw [hand, hwb]
  cases x.testBit (i % 64) with
  | true =>
    simp only [if_true]
    (refine SS.val (R.neT rfl rfl rfl (by omega)) rfl rfl ?_; refine SS.val (R.assign rfl rfl) rfl rfl ?_; refine SS.nilQ ?_)
    (refine EE.thenN ?_; refine CC.ret ?_)
    refine EE.ret _ rfl rfl ?_
    exact ⟨rfl, b1.drew⟩
  | false =>
    simp only [Bool.false_eq_true, if_false]
    (refine SS.val (R.neF rfl rfl rfl (by omega)) rfl rfl ?_; refine SS.val (R.assign rfl rfl) rfl rfl ?_; refine SS.nilQ ?_)
    (refine EE.thenN ?_; refine CC.ret ?_)
    refine EE.ret _ rfl rfl ?_
    exact ⟨rfl, b1.drew⟩
end Go.Proofs.Ytojoaplbgcdapaa
