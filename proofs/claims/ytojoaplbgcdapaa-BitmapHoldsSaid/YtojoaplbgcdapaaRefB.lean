/- The document's Right, Of, Words, Left, Runs. -/
import Derived.Test.YtojoaplbgcdapaaSameW
import Derived.Test.YtojoaplbgcdapaaRunsQ
import Derived.Test.YtojoaplbgcdapaaTFld
import Derived.Test.YtojoaplbgcdapaaUp
namespace Go.Proofs.Ytojoaplbgcdapaa
set_option linter.unusedVariables false
set_option linter.unusedSimpArgs false
open Go.RowKit Go.Shelf

section
variable {P : Program} {w : World} {o : Oper} {n : Nat} {D : List Deferred} {M : Slots} {x y : Operand} {t u : TypeId} {a b z : Nat}
theorem R.quoU (ho : o.op = .binOp .quo t x y u) (hx : evM M x = some (.int .u64 (a : Int))) (hy : evM M y = some (.int .u64 (b : Int))) (h : 0 < b) (ha : a < 18446744073709551616) : Runs P n D M o w (.value (.int .u64 ((a / b : Nat) : Int))) w := R.bin ho hx hy (by
  have e : ((a : Int).tdiv (b : Int)) = ((a / b : Nat) : Int) := by rw [Int.tdiv_eq_ediv_of_nonneg (by omega)]; simp
  have hlt : a / b < 18446744073709551616 := Nat.lt_of_le_of_lt (Nat.div_le_self _ _) ha
  obtain ⟨q, hq⟩ : ∃ q, a / b = q := ⟨_, rfl⟩
  rw [hq] at e hlt ⊢
  have hb : b ≠ 0 := by omega
  have hw : IntKind.u64.wrap (q : Int) = (q : Int) := IntWalk.u64_in _ (by omega)
  simp [eqGuard, binOp, Op.intDiv, hb, e, hw])
end
theorem pow_any (k : Nat) (h : k ≤ 63) (w : World) : Calls Try.prog 28 #[.int .i64 (k : Int)] w fun e w' => e = .returned (.int .u64 ((2 ^ k : Nat) : Int)) ∧ w = w' := by
  refine X.fn Try.func28 rfl (n := 13) rfl rfl ?_
  (refine CC.seq ?_; refine CC.region ?_; refine LL.val (R.assign rfl rfl) rfl rfl rfl ?_; refine LL.nilS ?_; refine CC.seq ?_; refine CC.region ?_; refine LL.val (R.assign rfl rfl) rfl rfl rfl ?_; refine LL.nilS ?_; refine CC.seq ?_; refine CC.seq ?_; refine CC.region ?_; refine LL.val (R.assign rfl rfl) rfl rfl rfl ?_; refine LL.nilS ?_; refine CC.block ?_)
  refine CC.loop (α := Nat) (fun i => [(0, .int .i64 (k : Int)), (3, .int .u64 ((2 ^ i : Nat) : Int)), (4, .int .i64 (i : Int))]) (fun i wr => i ≤ k ∧ w = wr) (fun i => k - i) 0 ⟨rfl, rfl, rfl, trivial⟩ ⟨by omega, rfl⟩ ?_
  rintro i wr ⟨hi, rfl⟩
  by_cases h1 : i < k
  · have hp : 2 ^ i * 2 ≤ 9223372036854775808 := by
      rw [← Nat.pow_succ]
      exact Nat.le_trans (Nat.pow_le_pow_right (n := 2) (by decide) (show i + 1 ≤ 63 by omega)) (by decide)
    obtain ⟨p, hpe⟩ : ∃ p, 2 ^ i = p := ⟨_, rfl⟩
    have hs : 2 ^ (i + 1) = 2 * p := by rw [Nat.pow_succ, hpe, Nat.mul_comm]
    rw [hpe] at hp ⊢
    (refine CC.seq ?_; refine CC.seq ?_; refine CC.region ?_; refine LL.val (R.move rfl rfl) rfl rfl rfl ?_; refine LL.val (R.move rfl rfl) rfl rfl rfl ?_; refine LL.val (R.ltT rfl rfl rfl (by omega)) rfl rfl rfl ?_; refine LL.nilS ?_; refine CC.yes rfl ?_; refine CC.skip ?_; refine EE.thenN ?_; refine CC.seq ?_; refine CC.block ?_; refine CC.region ?_; refine LL.val (R.move rfl rfl) rfl rfl rfl ?_)
    refine LL.val (R.mulUN (a := 2) (b := p) rfl rfl rfl (by omega)) rfl rfl rfl ?_
    (refine LL.val (R.assign rfl rfl) rfl rfl rfl ?_; refine LL.nil ?_; refine EE.inN ?_; refine EE.thenN ?_; refine CC.region ?_; refine LL.val (R.move rfl rfl) rfl rfl rfl ?_; refine LL.val (R.addNc rfl rfl rfl rfl (by omega)) rfl rfl rfl ?_; refine LL.val (R.assign rfl rfl) rfl rfl rfl ?_; refine LL.nil ?_)
    exact EE.round (i + 1) ⟨rfl, by rw [hs]; rfl, rfl, trivial⟩ ⟨by omega, rfl⟩ (by omega)
  · obtain rfl : i = k := by omega
    (refine CC.seq ?_; refine CC.seq ?_; refine CC.region ?_; refine LL.val (R.move rfl rfl) rfl rfl rfl ?_; refine LL.val (R.move rfl rfl) rfl rfl rfl ?_; refine LL.val (R.ltF rfl rfl rfl (by omega)) rfl rfl rfl ?_; refine LL.nilS ?_; refine CC.no rfl ?_; refine CC.exit ?_; refine EE.thenX ?_; refine EE.thenX ?_; refine EE.inX ?_; refine EE.thenN ?_; refine CC.seq ?_; refine CC.region ?_; refine LL.val (R.move rfl rfl) rfl rfl rfl ?_; refine LL.val (R.assign rfl rfl) rfl rfl rfl ?_; refine LL.nilS ?_; refine CC.ret ?_)
    refine EE.ret _ rfl rfl ?_
    exact ⟨rfl, rfl⟩
theorem rright_any (m : Int) (w : World) : Calls Try.prog 17 #[.int .i64 m] w fun e w' => e = .returned (.bool (decide (1 ≤ m ∧ m ≤ 65536))) ∧ w = w' := by
  refine X.fn Try.func17 rfl (n := 9) rfl rfl ?_
  by_cases h1 : 1 ≤ m
  · by_cases h2 : m ≤ 65536
    · rw [decide_eq_true ⟨h1, h2⟩]
      (refine CC.seq ?_; refine CC.region ?_; refine LL.val (R.assign rfl rfl) rfl rfl rfl ?_; refine LL.nilS ?_; refine CC.seq ?_; refine CC.region ?_; refine LL.val (R.move rfl rfl) rfl rfl rfl ?_; refine LL.val (R.geT rfl rfl rfl (by omega)) rfl rfl rfl ?_; refine LL.val (R.move rfl rfl) rfl rfl rfl ?_; refine LL.val (R.move rfl rfl) rfl rfl rfl ?_; refine LL.val (R.leT rfl rfl rfl (by omega)) rfl rfl rfl ?_; refine LL.val (R.pick rfl rfl rfl) rfl rfl rfl ?_; refine LL.val (R.assign rfl rfl) rfl rfl rfl ?_; refine LL.nilS ?_; refine CC.ret ?_)
      refine EE.ret _ rfl rfl ?_
      exact ⟨rfl, rfl⟩
    · rw [decide_eq_false (fun h => h2 h.2)]
      (refine CC.seq ?_; refine CC.region ?_; refine LL.val (R.assign rfl rfl) rfl rfl rfl ?_; refine LL.nilS ?_; refine CC.seq ?_; refine CC.region ?_; refine LL.val (R.move rfl rfl) rfl rfl rfl ?_; refine LL.val (R.geT rfl rfl rfl (by omega)) rfl rfl rfl ?_; refine LL.val (R.move rfl rfl) rfl rfl rfl ?_; refine LL.val (R.move rfl rfl) rfl rfl rfl ?_; refine LL.val (R.leF rfl rfl rfl (by omega)) rfl rfl rfl ?_; refine LL.val (R.pick rfl rfl rfl) rfl rfl rfl ?_; refine LL.val (R.assign rfl rfl) rfl rfl rfl ?_; refine LL.nilS ?_; refine CC.ret ?_)
      refine EE.ret _ rfl rfl ?_
      exact ⟨rfl, rfl⟩
  · rw [decide_eq_false (fun h => h1 h.1)]
    (refine CC.seq ?_; refine CC.region ?_; refine LL.val (R.assign rfl rfl) rfl rfl rfl ?_; refine LL.nilS ?_; refine CC.seq ?_; refine CC.region ?_; refine LL.val (R.move rfl rfl) rfl rfl rfl ?_; refine LL.val (R.geF rfl rfl rfl (by omega)) rfl rfl rfl ?_; refine LL.val (R.move rfl rfl) rfl rfl rfl ?_; refine LL.skip rfl rfl ?_; refine LL.skip rfl rfl ?_; refine LL.val (R.pick rfl rfl rfl) rfl rfl rfl ?_; refine LL.val (R.assign rfl rfl) rfl rfl rfl ?_; refine LL.nilS ?_; refine CC.ret ?_)
    refine EE.ret _ rfl rfl ?_
    exact ⟨rfl, rfl⟩

/-- The bits of words, as the document has them. -/
def mapB (ws : List Nat) (n : Nat) : List Bool := (List.range n).map (wb ws)
theorem mapB_len (ws : List Nat) (n : Nat) : (mapB ws n).length = n := by simp [mapB]
theorem mapB_get {ws : List Nat} {n i : Nat} (h : i < n) : (mapB ws n)[i]? = some (wb ws i) := by simp [mapB, h]
def bitsU (ws : List Nat) (n i : Nat) : List Value := (List.range n).map fun j => Value.bool (decide (j < i) && wb ws j)
theorem bitsU_zero (ws : List Nat) (n : Nat) : bitsU ws n 0 = List.replicate n (.bool false) := by
  unfold bitsU
  apply List.ext_getElem?
  intro j
  simp only [List.getElem?_map, List.getElem?_replicate]
  by_cases h : j < n <;> simp [h]
theorem bitsU_in (ws : List Nat) (n i : Nat) (h : i < n) : (bitsU ws n i).set i (.bool (wb ws i)) = bitsU ws n (i + 1) := by
  unfold bitsU
  apply List.ext_getElem?
  intro j
  rw [List.getElem?_set]
  by_cases hj : j < n
  · by_cases hji : i = j
    · subst hji
      simp [h]
    · simp [hj, hji, show (j < i + 1) ↔ j < i from by omega]
  · simp [hj]
    intro e
    omega
theorem bitsU_out (ws : List Nat) (n i : Nat) (h : n ≤ i) : bitsU ws n i = (mapB ws n).flatMap bE := by
  have : (mapB ws n).flatMap bE = (mapB ws n).map Value.bool := by
    induction mapB ws n with
    | nil => rfl
    | cons x l ih => rw [List.flatMap_cons, ih]; rfl
  rw [this]
  unfold bitsU mapB
  rw [List.map_map]
  apply List.map_congr_left
  intro j hj
  have := List.mem_range.1 hj
  simp [show j < i by omega]
theorem wb_div {ws : List Nat} {i x : Nat} (h : ws[i / 64]? = some x) : (wb ws i = true ↔ x / 2 ^ (i % 64) % 2 = 1) := by
  unfold wb
  rw [h, Option.getD_some, Nat.testBit_eq_decide_div_mod_eq, decide_eq_true_eq]
theorem Try.infoB : (Try.prog.info? 4).map (fun i => (i.zero, i.size, i.bytes)) = some (some (.bool false), 1, 1) := by kernel_rfl
theorem ElB : El Try.prog 29 4 (.bool false) 1 := ⟨Try.underlying29, info_parts Try.infoB, rfl⟩

set_option maxRecDepth 100000 in
set_option maxHeartbeats 4000000 in
theorem rof_any (bits : Int) (va : Value) (l : List Nat) (w : World) (hbits : -9223372036854775808 ≤ bits ∧ bits ≤ 9223372036854775807) (ha : ReadsT uE 1 w va l) (hl : l.length ≤ 1048576) (hwf : ∀ x ∈ l, x < 18446744073709551616) :
    Calls Try.prog 10 #[.int .i64 bits, va] w fun e w' => (OfOk bits l ∧ (∃ v, e = .returned (.tuple #[v, .int .i64 0]) ∧ OwnsT bE 1 w' w.heap.size 4 v (mapB l bits.toNat)) ∨ ¬ OfOk bits l ∧ e = .returned (.tuple #[.slice none 0 0, .int .i64 2])) ∧ Below w.heap.size w w' := by
  obtain ⟨N, hN⟩ : ∃ N, l.length = N := ⟨_, rfl⟩
  have har := ha
  obtain ⟨a, cap, rfl, hc⟩ := ha.form hN
  rw [hN] at hl
  refine X.fn Try.func10 rfl (n := 54) rfl rfl ?_
  (refine CC.seq ?_; refine CC.region ?_; refine LL.val (R.assign rfl rfl) rfl rfl rfl ?_; refine LL.val (R.assign rfl rfl) rfl rfl rfl ?_; refine LL.nilS ?_; refine CC.seq ?_; refine CC.seq ?_; refine CC.region ?_; refine LL.val (R.move rfl rfl) rfl rfl rfl ?_)
  refine LL.call (R.call rfl rfl rfl) rfl rfl rfl (rright_any bits _) ?_
  rintro e W ⟨rfl, rfl⟩
  refine ⟨_, rfl, ?_⟩
  by_cases hb : 1 ≤ bits ∧ bits ≤ 65536
  case neg =>
    rw [decide_eq_false hb]
    (refine LL.val (R.not rfl rfl) rfl rfl rfl ?_; refine LL.val (R.move rfl rfl) rfl rfl rfl ?_; refine LL.skip rfl rfl ?_; refine LL.skip rfl rfl ?_; refine LL.skip rfl rfl ?_; refine LL.skip rfl rfl ?_; refine LL.skip rfl rfl ?_; refine LL.skip rfl rfl ?_; refine LL.val (R.pick rfl rfl rfl) rfl rfl rfl ?_; refine LL.nilS ?_; refine CC.yes rfl ?_; refine CC.seq ?_; refine CC.region ?_; refine LL.val (R.assign rfl rfl) rfl rfl rfl ?_; refine LL.val (R.assign rfl rfl) rfl rfl rfl ?_; refine LL.nilS ?_; refine CC.ret ?_; refine EE.thenR ?_)
    refine EE.ret _ rfl rfl ?_
    exact ⟨.inr ⟨fun h => hb ⟨h.1, h.2.1⟩, rfl⟩, Below.refl _ _⟩
  rw [decide_eq_true hb]
  obtain ⟨n, rfl⟩ : ∃ n : Nat, bits = n := ⟨bits.toNat, by omega⟩
  by_cases hnN : N = (n + 63) / 64
  case neg =>
    (refine LL.val (R.not rfl rfl) rfl rfl rfl ?_; refine LL.val (R.move rfl rfl) rfl rfl rfl ?_; refine LL.val (R.move rfl rfl) rfl rfl rfl ?_; refine LL.val (R.len rfl rfl rfl rfl) rfl rfl rfl ?_; refine LL.val (R.move rfl rfl) rfl rfl rfl ?_; refine LL.val (R.addNc rfl rfl rfl rfl (by omega)) rfl rfl rfl ?_; refine LL.val (R.quoNc rfl rfl rfl rfl (by omega) (by omega)) rfl rfl rfl ?_; refine LL.val (R.neT rfl rfl rfl (by omega)) rfl rfl rfl ?_; refine LL.val (R.pick rfl rfl rfl) rfl rfl rfl ?_; refine LL.nilS ?_; refine CC.yes rfl ?_; refine CC.seq ?_; refine CC.region ?_; refine LL.val (R.assign rfl rfl) rfl rfl rfl ?_; refine LL.val (R.assign rfl rfl) rfl rfl rfl ?_; refine LL.nilS ?_; refine CC.ret ?_; refine EE.thenR ?_)
    refine EE.ret _ rfl rfl ?_
    exact ⟨.inr ⟨fun h => hnN (by rw [← hN, h.2.2.1]; rfl), rfl⟩, Below.refl _ _⟩
  (refine LL.val (R.not rfl rfl) rfl rfl rfl ?_; refine LL.val (R.move rfl rfl) rfl rfl rfl ?_; refine LL.val (R.move rfl rfl) rfl rfl rfl ?_; refine LL.val (R.len rfl rfl rfl rfl) rfl rfl rfl ?_; refine LL.val (R.move rfl rfl) rfl rfl rfl ?_; refine LL.val (R.addNc rfl rfl rfl rfl (by omega)) rfl rfl rfl ?_; refine LL.val (R.quoNc rfl rfl rfl rfl (by omega) (by omega)) rfl rfl rfl ?_; refine LL.val (R.neF rfl rfl rfl (by omega)) rfl rfl rfl ?_; refine LL.val (R.pick rfl rfl rfl) rfl rfl rfl ?_; refine LL.nilS ?_; refine CC.no rfl ?_; refine CC.skip ?_; refine EE.thenN ?_; refine CC.seq ?_; refine CC.region ?_; refine LL.val (R.move rfl rfl) rfl rfl rfl ?_)
  refine LL.make (l := n) (m := n) ElB rfl rfl rfl (by omega) (by omega) (by omega) rfl rfl ?_
  intro w1 g eg r zg b
  have q := b
  rw [← bitsU_zero l n] at r
  (refine LL.val (R.assign rfl rfl) rfl rfl rfl ?_; refine LL.nilS ?_; refine CC.seq ?_; refine CC.seq ?_; refine CC.region ?_; refine LL.val (R.assign rfl rfl) rfl rfl rfl ?_; refine LL.nilS ?_; refine CC.block ?_)
  refine CC.loop (α := Nat) (fun i => [(0, .int .i64 (n : Int)), (1, .slice a N cap), (6, .slice (some ⟨g, 0, none⟩) n n), (7, .int .i64 (i : Int))]) (fun i W => i ≤ 64 * N ∧ Below w.heap.size w W ∧ RowL W g 4 (bitsU l n i) ∧ ∀ j, n ≤ j → j < i → wb l j = false) (fun i => 64 * N - i) 0 ⟨rfl, rfl, rfl, rfl, trivial⟩ ⟨by omega, q, r, fun j _ h => by omega⟩ ?_
  rintro i W ⟨hi, q, r, hno⟩
  by_cases hlt : i < 64 * N
  · obtain ⟨x, hx⟩ : ∃ x, l[i / 64]? = some x := ⟨_, List.getElem?_eq_getElem (by omega)⟩
    have hxl := hwf x (List.mem_of_getElem? hx)
    obtain ⟨bl, off, rfl, hbl, hcs⟩ := ReadsT.one uEnc (har.up q.drew) hx
    have hc1 := hcs _ rfl
    (refine CC.seq ?_; refine CC.seq ?_; refine CC.region ?_; refine LL.val (R.move rfl rfl) rfl rfl rfl ?_; refine LL.val (R.move rfl rfl) rfl rfl rfl ?_; refine LL.val (R.len rfl rfl rfl rfl) rfl rfl rfl ?_; refine LL.val (R.mulcN rfl rfl rfl rfl (by omega)) rfl rfl rfl ?_; refine LL.val (R.ltT rfl rfl rfl (by omega)) rfl rfl rfl ?_; refine LL.nilS ?_; refine CC.yes rfl ?_; refine CC.skip ?_; refine EE.thenN ?_; refine CC.seq ?_; refine CC.block ?_; refine CC.seq ?_)
    refine CC.quiet (by kernel_rfl) (by kernel_rfl) ?_
    (refine SS.val (R.move rfl rfl) rfl rfl ?_; refine SS.val (R.move rfl rfl) rfl rfl ?_; refine SS.val (R.quoNc rfl rfl rfl rfl (by omega) (by omega)) rfl rfl ?_; refine SS.val (R.index rfl rfl rfl (I.ixS1 rfl (by omega))) rfl rfl ?_; refine SS.val (R.load rfl rfl (I.ld1 rfl (by assumption))) rfl rfl ?_; refine SS.val (R.move rfl rfl) rfl rfl ?_; refine SS.val (R.remNc rfl rfl rfl rfl (by omega)) rfl rfl ?_)
    refine SS.call (R.call rfl rfl rfl) rfl rfl (pow_any (i % 64) (by omega) _) ?_
    refine SS.val (R.quoU rfl rfl rfl (Nat.two_pow_pos _) hxl) rfl rfl ?_
    refine SS.val (R.remU (b := 2) rfl rfl rfl (by omega) (Nat.lt_of_le_of_lt (Nat.div_le_self _ _) hxl)) rfl rfl ?_
    have hd := wb_div hx
    have hgl := r.lt
    cases hwb : wb l i with
    | true =>
      have hv := hd.1 hwb
      (refine SS.val (R.eqT rfl rfl rfl (by omega)) rfl rfl ?_; refine SS.val (R.assign rfl rfl) rfl rfl ?_; refine SS.nilQ ?_)
      (refine EE.thenN ?_; refine CC.seq ?_; refine CC.seq ?_; refine CC.region ?_; refine LL.val (R.move rfl rfl) rfl rfl rfl ?_; refine LL.val (R.move rfl rfl) rfl rfl rfl ?_)
      by_cases hin : i < n
      · (refine LL.val (R.geF rfl rfl rfl (by omega)) rfl rfl rfl ?_; refine LL.val (R.move rfl rfl) rfl rfl rfl ?_; refine LL.skip rfl rfl ?_; refine LL.val (R.pick rfl rfl rfl) rfl rfl rfl ?_; refine LL.nilS ?_; refine CC.no rfl ?_; refine CC.skip ?_; refine EE.thenN ?_; refine CC.seq ?_; refine CC.region ?_; refine LL.val (R.move rfl rfl) rfl rfl rfl ?_; refine LL.val (R.move rfl rfl) rfl rfl rfl ?_; refine LL.val (R.ltT rfl rfl rfl (by omega)) rfl rfl rfl ?_; refine LL.nilS ?_; refine CC.yes rfl ?_; refine CC.region ?_; refine LL.val (R.move rfl rfl) rfl rfl rfl ?_; refine LL.val (R.move rfl rfl) rfl rfl rfl ?_; refine LL.val (R.move rfl rfl) rfl rfl rfl ?_; refine LL.val (R.index rfl rfl rfl (I.ixS1 rfl (by omega))) rfl rfl rfl ?_)
        have r := r.drew
        refine LL.store rfl rfl rfl rfl r (by simp [bitsU]; omega) rfl rfl rfl rfl ?_
        intro W2 r2 g2 z2
        rw [Nat.zero_add, ← hwb, bitsU_in l n i hin] at r2
        (refine LL.nil ?_; refine EE.inN ?_; refine EE.thenN ?_; refine CC.region ?_; refine LL.val (R.move rfl rfl) rfl rfl rfl ?_; refine LL.val (R.addNc rfl rfl rfl rfl (by omega)) rfl rfl rfl ?_; refine LL.val (R.assign rfl rfl) rfl rfl rfl ?_; refine LL.nil ?_)
        exact EE.round (i + 1) ⟨rfl, rfl, rfl, rfl, trivial⟩ ⟨by omega, q.drew.grown g2 q.size (by rintro k ⟨⟩; omega), r2, fun j h1 h2 => by omega⟩ (by omega)
      · (refine LL.val (R.geT rfl rfl rfl (by omega)) rfl rfl rfl ?_; refine LL.val (R.move rfl rfl) rfl rfl rfl ?_; refine LL.val (R.move rfl rfl) rfl rfl rfl ?_; refine LL.val (R.pick rfl rfl rfl) rfl rfl rfl ?_; refine LL.nilS ?_; refine CC.yes rfl ?_; refine CC.seq ?_; refine CC.region ?_; refine LL.val (R.assign rfl rfl) rfl rfl rfl ?_; refine LL.val (R.assign rfl rfl) rfl rfl rfl ?_; refine LL.nilS ?_; refine CC.ret ?_; refine EE.thenR ?_; refine EE.inR ?_; refine EE.thenR ?_; refine EE.thenR ?_; refine EE.inR ?_; refine EE.thenR ?_)
        refine EE.ret _ rfl rfl ?_
        exact ⟨.inr ⟨fun h => (by have := h.2.2.2 i (by show n ≤ i; omega); rw [hwb] at this; cases this), rfl⟩, q.drew⟩
    | false =>
      have hv : ¬ (x / 2 ^ (i % 64) % 2 = 1) := fun h => by rw [hd.2 h] at hwb; cases hwb
      have hv2 : ((x / 2 ^ (i % 64) % 2 : Nat) : Int) ≠ 1 := by omega
      refine SS.val (R.eqF rfl rfl rfl hv2) rfl rfl ?_
      (refine SS.val (R.assign rfl rfl) rfl rfl ?_; refine SS.nilQ ?_)
      (refine EE.thenN ?_; refine CC.seq ?_; refine CC.seq ?_; refine CC.region ?_; refine LL.val (R.move rfl rfl) rfl rfl rfl ?_; refine LL.val (R.move rfl rfl) rfl rfl rfl ?_)
      by_cases hin : i < n
      · (refine LL.val (R.geF rfl rfl rfl (by omega)) rfl rfl rfl ?_; refine LL.val (R.move rfl rfl) rfl rfl rfl ?_; refine LL.skip rfl rfl ?_; refine LL.val (R.pick rfl rfl rfl) rfl rfl rfl ?_; refine LL.nilS ?_; refine CC.no rfl ?_; refine CC.skip ?_; refine EE.thenN ?_; refine CC.seq ?_; refine CC.region ?_; refine LL.val (R.move rfl rfl) rfl rfl rfl ?_; refine LL.val (R.move rfl rfl) rfl rfl rfl ?_; refine LL.val (R.ltT rfl rfl rfl (by omega)) rfl rfl rfl ?_; refine LL.nilS ?_; refine CC.yes rfl ?_; refine CC.region ?_; refine LL.val (R.move rfl rfl) rfl rfl rfl ?_; refine LL.val (R.move rfl rfl) rfl rfl rfl ?_; refine LL.val (R.move rfl rfl) rfl rfl rfl ?_; refine LL.val (R.index rfl rfl rfl (I.ixS1 rfl (by omega))) rfl rfl rfl ?_)
        have r := r.drew
        refine LL.store rfl rfl rfl rfl r (by simp [bitsU]; omega) rfl rfl rfl rfl ?_
        intro W2 r2 g2 z2
        rw [Nat.zero_add, ← hwb, bitsU_in l n i hin] at r2
        (refine LL.nil ?_; refine EE.inN ?_; refine EE.thenN ?_; refine CC.region ?_; refine LL.val (R.move rfl rfl) rfl rfl rfl ?_; refine LL.val (R.addNc rfl rfl rfl rfl (by omega)) rfl rfl rfl ?_; refine LL.val (R.assign rfl rfl) rfl rfl rfl ?_; refine LL.nil ?_)
        exact EE.round (i + 1) ⟨rfl, rfl, rfl, rfl, trivial⟩ ⟨by omega, q.drew.grown g2 q.size (by rintro k ⟨⟩; omega), r2, fun j h1 h2 => by omega⟩ (by omega)
      · (refine LL.val (R.geT rfl rfl rfl (by omega)) rfl rfl rfl ?_; refine LL.val (R.move rfl rfl) rfl rfl rfl ?_; refine LL.val (R.move rfl rfl) rfl rfl rfl ?_; refine LL.val (R.pick rfl rfl rfl) rfl rfl rfl ?_; refine LL.nilS ?_; refine CC.no rfl ?_; refine CC.skip ?_; refine EE.thenN ?_; refine CC.seq ?_; refine CC.region ?_; refine LL.val (R.move rfl rfl) rfl rfl rfl ?_; refine LL.val (R.move rfl rfl) rfl rfl rfl ?_; refine LL.val (R.ltF rfl rfl rfl (by omega)) rfl rfl rfl ?_; refine LL.nilS ?_; refine CC.no rfl ?_; refine CC.skip ?_; refine EE.inN ?_; refine EE.thenN ?_; refine CC.region ?_; refine LL.val (R.move rfl rfl) rfl rfl rfl ?_; refine LL.val (R.addNc rfl rfl rfl rfl (by omega)) rfl rfl rfl ?_; refine LL.val (R.assign rfl rfl) rfl rfl rfl ?_; refine LL.nil ?_)
        have r := r.drew
        have e1 : bitsU l n i = bitsU l n (i + 1) := by rw [bitsU_out l n i (by omega), bitsU_out l n (i + 1) (by omega)]
        rw [e1] at r
        exact EE.round (i + 1) ⟨rfl, rfl, rfl, rfl, trivial⟩ ⟨by omega, q.drew, r, fun j h1 h2 => by
          rcases Nat.lt_succ_iff_lt_or_eq.1 h2 with h3 | h3
          · exact hno j h1 h3
          · rw [h3]; exact hwb⟩ (by omega)
  · (refine CC.seq ?_; refine CC.seq ?_; refine CC.region ?_; refine LL.val (R.move rfl rfl) rfl rfl rfl ?_; refine LL.val (R.move rfl rfl) rfl rfl rfl ?_; refine LL.val (R.len rfl rfl rfl rfl) rfl rfl rfl ?_; refine LL.val (R.mulcN rfl rfl rfl rfl (by omega)) rfl rfl rfl ?_; refine LL.val (R.ltF rfl rfl rfl (by omega)) rfl rfl rfl ?_; refine LL.nilS ?_; refine CC.no rfl ?_; refine CC.exit ?_; refine EE.thenX ?_; refine EE.thenX ?_; refine EE.inX ?_; refine EE.thenN ?_; refine CC.seq ?_; refine CC.region ?_; refine LL.val (R.move rfl rfl) rfl rfl rfl ?_; refine LL.val (R.assign rfl rfl) rfl rfl rfl ?_; refine LL.val (R.assign rfl rfl) rfl rfl rfl ?_; refine LL.nilS ?_; refine CC.ret ?_)
    refine EE.ret _ rfl rfl ?_
    rw [bitsU_out l n i (by omega)] at r
    refine ⟨.inl ⟨⟨by omega, by omega, by rw [hN]; exact hnN, fun j hj => ?_⟩, _, rfl, ?_⟩, q⟩
    · rcases Nat.lt_or_ge j i with h3 | h3
      · exact hno j hj h3
      · unfold wb
        rw [List.getElem?_eq_none (by omega)]
        simp
    · have := RowL.ownsT (base := w.heap.size) (ts := mapB l n) bEnc (by exact r) (by omega) (by rw [mapB_len]; simp [maxLen]; omega)
      rw [mapB_len] at this
      exact this
end Go.Proofs.Ytojoaplbgcdapaa
