/- The document's Words, Left. -/
import Derived.Test.YtojoaplbgcdapaaRefB
namespace Go.Proofs.Ytojoaplbgcdapaa
set_option linter.unusedVariables false
set_option linter.unusedSimpArgs false
open Go.RowKit Go.Shelf

/-- How many are free. -/
def freeL (l : List Bool) : Nat := (l.filter fun b => !b).length
theorem freeL_step {l : List Bool} {i : Nat} {b : Bool} (h : l[i]? = some b) : freeL (l.take (i + 1)) = freeL (l.take i) + if b then 0 else 1 := by
  unfold freeL
  rw [List.take_add_one, h]
  cases b <;> simp
theorem freeL_le (l : List Bool) : freeL l ≤ l.length := List.length_filter_le _ _
set_option maxRecDepth 100000 in
theorem rleft_any (va : Value) (l : List Bool) (w : World) (ha : ReadsT bE 1 w va l) (hl : l.length ≤ 1048576) :
    Calls Try.prog 31 #[va] w fun e w' => e = .returned (.int .i64 (freeL l : Int)) ∧ w = w' := by
  obtain ⟨N, hN⟩ : ∃ N, l.length = N := ⟨_, rfl⟩
  have har := ha
  obtain ⟨a, cap, rfl, hc⟩ := ha.form hN
  rw [hN] at hl
  refine X.fn Try.func31 rfl (n := 19) rfl rfl ?_
  (refine CC.seq ?_; refine CC.region ?_; refine LL.val (R.assign rfl rfl) rfl rfl rfl ?_; refine LL.nilS ?_; refine CC.seq ?_; refine CC.region ?_; refine LL.val (R.assign rfl rfl) rfl rfl rfl ?_; refine LL.nilS ?_; refine CC.seq ?_; refine CC.seq ?_; refine CC.region ?_; refine LL.val (R.assign rfl rfl) rfl rfl rfl ?_; refine LL.nilS ?_; refine CC.block ?_)
  refine CC.loop (α := Nat) (fun i => [(0, .slice a N cap), (3, .int .i64 (freeL (l.take i) : Int)), (4, .int .i64 (i : Int))]) (fun i W => i ≤ N ∧ w = W) (fun i => N - i) 0 ⟨rfl, rfl, rfl, trivial⟩ ⟨by omega, rfl⟩ ?_
  rintro i W ⟨hi, rfl⟩
  have hf : freeL (l.take i) ≤ i := by have := freeL_le (l.take i); rw [List.length_take] at this; omega
  by_cases hlt : i < N
  · obtain ⟨x, hx⟩ : ∃ x, l[i]? = some x := ⟨_, List.getElem?_eq_getElem (by omega)⟩
    obtain ⟨bl, off, rfl, hbl, hcs⟩ := ReadsT.one bEnc har hx
    have hc1 := hcs _ rfl
    have hst := freeL_step hx
    obtain ⟨f, hfe⟩ : ∃ f, freeL (l.take i) = f := ⟨_, rfl⟩
    rw [hfe] at hst hf ⊢
    cases x with
    | true =>
      (refine CC.seq ?_; refine CC.seq ?_; refine CC.region ?_; refine LL.val (R.move rfl rfl) rfl rfl rfl ?_; refine LL.val (R.move rfl rfl) rfl rfl rfl ?_; refine LL.val (R.len rfl rfl rfl rfl) rfl rfl rfl ?_; refine LL.val (R.ltT rfl rfl rfl (by omega)) rfl rfl rfl ?_; refine LL.nilS ?_; refine CC.yes rfl ?_; refine CC.skip ?_; refine EE.thenN ?_; refine CC.seq ?_; refine CC.block ?_; refine CC.seq ?_; refine CC.region ?_; refine LL.val (R.move rfl rfl) rfl rfl rfl ?_; refine LL.val (R.move rfl rfl) rfl rfl rfl ?_; refine LL.val (R.index rfl rfl rfl (I.ixS1 rfl (by omega))) rfl rfl rfl ?_; refine LL.val (R.load rfl rfl (I.ld1 rfl (by assumption))) rfl rfl rfl ?_; refine LL.val (R.not rfl rfl) rfl rfl rfl ?_; refine LL.nilS ?_; refine CC.no rfl ?_; refine CC.skip ?_; refine EE.inN ?_; refine EE.thenN ?_; refine CC.region ?_; refine LL.val (R.move rfl rfl) rfl rfl rfl ?_; refine LL.val (R.addNc rfl rfl rfl rfl (by omega)) rfl rfl rfl ?_; refine LL.val (R.assign rfl rfl) rfl rfl rfl ?_; refine LL.nil ?_)
      exact EE.round (i + 1) ⟨rfl, by rw [hst]; rfl, rfl, trivial⟩ ⟨by omega, rfl⟩ (by omega)
    | false =>
      (refine CC.seq ?_; refine CC.seq ?_; refine CC.region ?_; refine LL.val (R.move rfl rfl) rfl rfl rfl ?_; refine LL.val (R.move rfl rfl) rfl rfl rfl ?_; refine LL.val (R.len rfl rfl rfl rfl) rfl rfl rfl ?_; refine LL.val (R.ltT rfl rfl rfl (by omega)) rfl rfl rfl ?_; refine LL.nilS ?_; refine CC.yes rfl ?_; refine CC.skip ?_; refine EE.thenN ?_; refine CC.seq ?_; refine CC.block ?_; refine CC.seq ?_; refine CC.region ?_; refine LL.val (R.move rfl rfl) rfl rfl rfl ?_; refine LL.val (R.move rfl rfl) rfl rfl rfl ?_; refine LL.val (R.index rfl rfl rfl (I.ixS1 rfl (by omega))) rfl rfl rfl ?_; refine LL.val (R.load rfl rfl (I.ld1 rfl (by assumption))) rfl rfl rfl ?_; refine LL.val (R.not rfl rfl) rfl rfl rfl ?_; refine LL.nilS ?_; refine CC.yes rfl ?_; refine CC.region ?_; refine LL.val (R.move rfl rfl) rfl rfl rfl ?_; refine LL.val (R.addNc rfl rfl rfl rfl (by omega)) rfl rfl rfl ?_; refine LL.val (R.assign rfl rfl) rfl rfl rfl ?_; refine LL.nil ?_; refine EE.inN ?_; refine EE.thenN ?_; refine CC.region ?_; refine LL.val (R.move rfl rfl) rfl rfl rfl ?_; refine LL.val (R.addNc rfl rfl rfl rfl (by omega)) rfl rfl rfl ?_; refine LL.val (R.assign rfl rfl) rfl rfl rfl ?_; refine LL.nil ?_)
      exact EE.round (i + 1) ⟨rfl, by rw [hst]; rfl, rfl, trivial⟩ ⟨by omega, rfl⟩ (by omega)
  · rw [List.take_of_length_le (by omega)]
    (refine CC.seq ?_; refine CC.seq ?_; refine CC.region ?_; refine LL.val (R.move rfl rfl) rfl rfl rfl ?_; refine LL.val (R.move rfl rfl) rfl rfl rfl ?_; refine LL.val (R.len rfl rfl rfl rfl) rfl rfl rfl ?_; refine LL.val (R.ltF rfl rfl rfl (by omega)) rfl rfl rfl ?_; refine LL.nilS ?_; refine CC.no rfl ?_; refine CC.exit ?_; refine EE.thenX ?_; refine EE.thenX ?_; refine EE.inX ?_; refine EE.thenN ?_; refine CC.seq ?_; refine CC.region ?_; refine LL.val (R.move rfl rfl) rfl rfl rfl ?_; refine LL.val (R.assign rfl rfl) rfl rfl rfl ?_; refine LL.nilS ?_; refine CC.ret ?_)
    refine EE.ret _ rfl rfl ?_
    exact ⟨rfl, rfl⟩

/-- The words of the first i bits. -/
def wordsU (ws : List Nat) (i : Nat) : List Value := (List.range ws.length).map fun k => Value.int .u64 ((ws[k]?.getD 0 % 2 ^ (i - 64 * k) : Nat) : Int)
theorem wordsU_zero (ws : List Nat) : wordsU ws 0 = List.replicate ws.length (.int .u64 0) := by
  unfold wordsU
  apply List.ext_getElem?
  intro j
  simp only [List.getElem?_map, List.getElem?_replicate]
  by_cases h : j < ws.length
  · simp only [h, List.getElem?_range, Option.map_some, if_true]
    rw [show 0 - 64 * j = 0 by omega, Nat.pow_zero, Nat.mod_one]
    rfl
  · simp [h]
theorem wordsU_len (ws : List Nat) (i : Nat) : (wordsU ws i).length = ws.length := by simp [wordsU]
theorem wordsU_get {ws : List Nat} {i k : Nat} {x : Nat} (h : ws[k]? = some x) : (wordsU ws i)[k]? = some (.int .u64 ((x % 2 ^ (i - 64 * k) : Nat) : Int)) := by
  have hk : k < ws.length := (List.getElem?_eq_some_iff.1 h).1
  unfold wordsU
  rw [List.getElem?_map, List.getElem?_range hk, Option.map_some, h, Option.getD_some]
theorem pow64_le {k : Nat} (h : 64 ≤ k) : 18446744073709551616 ≤ 2 ^ k := Nat.le_trans (by decide) (Nat.pow_le_pow_right (n := 2) (by decide) h)
theorem wordsU_succ (ws : List Nat) (i x : Nat) (hwf : ∀ x ∈ ws, x < 18446744073709551616) (hx : ws[i / 64]? = some x) (v : Nat) (hv : v = x % 2 ^ (i % 64 + 1)) : (wordsU ws i).set (i / 64) (.int .u64 (v : Int)) = wordsU ws (i + 1) := by
  apply List.ext_getElem?
  intro j
  rw [List.getElem?_set]
  by_cases hj : j < ws.length
  · obtain ⟨y, hy⟩ : ∃ y, ws[j]? = some y := ⟨_, List.getElem?_eq_getElem hj⟩
    have hyl := hwf y (List.mem_of_getElem? hy)
    rw [wordsU_get hy, wordsU_get hy, wordsU_len]
    by_cases hji : i / 64 = j
    · subst hji
      rw [if_pos rfl, if_pos hj, hv]
      rw [hx] at hy
      cases hy
      rw [show i + 1 - 64 * (i / 64) = i % 64 + 1 by omega]
    · rw [if_neg hji]
      by_cases hlt : j < i / 64
      · rw [Nat.mod_eq_of_lt (Nat.lt_of_lt_of_le hyl (pow64_le (by omega))), Nat.mod_eq_of_lt (Nat.lt_of_lt_of_le hyl (pow64_le (by omega)))]
      · rw [show i - 64 * j = 0 by omega, show i + 1 - 64 * j = 0 by omega]
  · rw [List.getElem?_eq_none (by rw [wordsU_len]; omega), List.getElem?_eq_none (by rw [wordsU_len]; omega)]
    split
    · rw [if_neg (by rw [wordsU_len]; omega)]
    · rfl
theorem wordsU_same (ws : List Nat) (i : Nat) (hwf : ∀ x ∈ ws, x < 18446744073709551616) (h : wb ws i = false) : wordsU ws i = wordsU ws (i + 1) := by
  apply List.ext_getElem?
  intro j
  by_cases hj : j < ws.length
  · obtain ⟨y, hy⟩ : ∃ y, ws[j]? = some y := ⟨_, List.getElem?_eq_getElem hj⟩
    have hyl := hwf y (List.mem_of_getElem? hy)
    rw [wordsU_get hy, wordsU_get hy]
    by_cases hji : i / 64 = j
    · subst hji
      have : y / 2 ^ (i % 64) % 2 = 0 := by
        have := wb_div hy
        rw [h] at this
        have h2 : ¬ (y / 2 ^ (i % 64) % 2 = 1) := fun e => by simp [e] at this
        omega
      rw [show i + 1 - 64 * (i / 64) = i % 64 + 1 by omega, show i - 64 * (i / 64) = i % 64 by omega, Nat.mod_pow_succ, this, Nat.mul_zero, Nat.add_zero]
    · by_cases hlt : j < i / 64
      · rw [Nat.mod_eq_of_lt (Nat.lt_of_lt_of_le hyl (pow64_le (by omega))), Nat.mod_eq_of_lt (Nat.lt_of_lt_of_le hyl (pow64_le (by omega)))]
      · rw [show i - 64 * j = 0 by omega, show i + 1 - 64 * j = 0 by omega]
  · rw [List.getElem?_eq_none (by rw [wordsU_len]; omega), List.getElem?_eq_none (by rw [wordsU_len]; omega)]
theorem wordsU_full (ws : List Nat) (n : Nat) (hwf : ∀ x ∈ ws, x < 18446744073709551616) (hr : ∀ i, n ≤ i → wb ws i = false) : wordsU ws n = ws.flatMap uE := by
  have h1 : ∀ k, wordsU ws n = wordsU ws (n + k) := fun k => by
    induction k with
    | zero => rfl
    | succ k ih => rw [ih]; exact wordsU_same ws (n + k) hwf (hr _ (by omega))
  rw [h1 (64 * ws.length), flat_u]
  apply List.ext_getElem?
  intro j
  by_cases hj : j < ws.length
  · obtain ⟨y, hy⟩ : ∃ y, ws[j]? = some y := ⟨_, List.getElem?_eq_getElem hj⟩
    have hyl := hwf y (List.mem_of_getElem? hy)
    rw [wordsU_get hy, Nat.mod_eq_of_lt (Nat.lt_of_lt_of_le hyl (pow64_le (by omega))), List.getElem?_map, hy]
    rfl
  · rw [List.getElem?_eq_none (by rw [wordsU_len]; omega), List.getElem?_eq_none (by simp; omega)]
set_option maxRecDepth 100000 in
set_option maxHeartbeats 4000000 in
theorem rwords_any (va : Value) (ws : List Nat) (n : Nat) (w : World) (ha : ReadsT bE 1 w va (mapB ws n)) (hn : n ≤ 65536) (hlen : ws.length = (n + 63) / 64) (hwf : ∀ x ∈ ws, x < 18446744073709551616) (hr : ∀ i, n ≤ i → wb ws i = false) :
    Calls Try.prog 32 #[va] w fun e w' => ∃ v, e = .returned v ∧ OwnsT uE 1 w' w.heap.size 61 v ws ∧ Below w.heap.size w w' := by
  have har := ha
  obtain ⟨a, cap, rfl, hc⟩ := ha.form (mapB_len ws n)
  obtain ⟨N, hN⟩ : ∃ N, ws.length = N := ⟨_, rfl⟩
  rw [hN] at hlen
  refine X.fn Try.func32 rfl (n := 34) rfl rfl ?_
  (refine CC.seq ?_; refine CC.region ?_; refine LL.val (R.assign rfl rfl) rfl rfl rfl ?_; refine LL.nilS ?_; refine CC.seq ?_; refine CC.region ?_; refine LL.val (R.move rfl rfl) rfl rfl rfl ?_; refine LL.val (R.len rfl rfl rfl rfl) rfl rfl rfl ?_; refine LL.val (R.addNc rfl rfl rfl rfl (by omega)) rfl rfl rfl ?_; refine LL.val (R.quoNc rfl rfl rfl rfl (by omega) (by omega)) rfl rfl rfl ?_)
  refine LL.make (l := (n + 63) / 64) (m := (n + 63) / 64) ElU1 rfl rfl rfl (by omega) (by omega) (by omega) rfl rfl ?_
  rw [← hlen]
  intro w1 g eg r zg b
  have q := b
  rw [← hN, ← wordsU_zero ws] at r
  (refine LL.val (R.assign rfl rfl) rfl rfl rfl ?_; refine LL.nilS ?_; refine CC.seq ?_; refine CC.seq ?_; refine CC.region ?_; refine LL.val (R.assign rfl rfl) rfl rfl rfl ?_; refine LL.nilS ?_; refine CC.block ?_)
  refine CC.loop (α := Nat) (fun i => [(0, .slice a n cap), (3, .slice (some ⟨g, 0, none⟩) N N), (4, .int .i64 (i : Int))]) (fun i W => i ≤ n ∧ Below w.heap.size w W ∧ RowL W g 61 (wordsU ws i)) (fun i => n - i) 0 ⟨rfl, rfl, rfl, trivial⟩ ⟨by omega, q, r⟩ ?_
  rintro i W ⟨hi, q, r⟩
  by_cases hlt : i < n
  · obtain ⟨bl, off, rfl, hbl, hcs⟩ := ReadsT.one bEnc (har.up q) (mapB_get (ws := ws) hlt)
    have hc1 := hcs _ rfl
    obtain ⟨x, hx⟩ : ∃ x, ws[i / 64]? = some x := ⟨_, List.getElem?_eq_getElem (by omega)⟩
    have hxl := hwf x (List.mem_of_getElem? hx)
    cases hwb : wb ws i with
    | true =>
      rw [hwb] at hc1
      (refine CC.seq ?_; refine CC.seq ?_; refine CC.region ?_; refine LL.val (R.move rfl rfl) rfl rfl rfl ?_; refine LL.val (R.move rfl rfl) rfl rfl rfl ?_; refine LL.val (R.len rfl rfl rfl rfl) rfl rfl rfl ?_; refine LL.val (R.ltT rfl rfl rfl (by omega)) rfl rfl rfl ?_; refine LL.nilS ?_; refine CC.yes rfl ?_; refine CC.skip ?_; refine EE.thenN ?_; refine CC.seq ?_; refine CC.block ?_; refine CC.seq ?_; refine CC.region ?_; refine LL.val (R.move rfl rfl) rfl rfl rfl ?_; refine LL.val (R.move rfl rfl) rfl rfl rfl ?_; refine LL.val (R.index rfl rfl rfl (I.ixS1 rfl (by omega))) rfl rfl rfl ?_; refine LL.val (R.load rfl rfl (I.ld1 rfl (by assumption))) rfl rfl rfl ?_; refine LL.nilS ?_; refine CC.yes rfl ?_)
      refine CC.tail 13 (by kernel_rfl) (by kernel_rfl) ?_
      have r := r.drew
      have hc2 := r.cell (wordsU_get hx)
      rw [show i - 64 * (i / 64) = i % 64 by omega] at hc2
      have hc3 : W.drew.cell? ⟨g, 0 + i / 64, none⟩ = some (.int .u64 ((x % 2 ^ (i % 64) : Nat) : Int)) := by rw [Nat.zero_add]; exact hc2
      have hv := (wb_div hx).1 hwb
      have hsum : x % 2 ^ (i % 64 + 1) = x % 2 ^ (i % 64) + 2 ^ (i % 64) := by rw [Nat.mod_pow_succ, hv, Nat.mul_one]
      have hlt2 : x % 2 ^ (i % 64) + 2 ^ (i % 64) < 18446744073709551616 := by
        rw [← hsum]
        exact Nat.lt_of_le_of_lt (Nat.mod_le _ _) hxl
      (refine SS.val (R.move rfl rfl) rfl rfl ?_; refine SS.val (R.move rfl rfl) rfl rfl ?_; refine SS.val (R.quoNc rfl rfl rfl rfl (by omega) (by omega)) rfl rfl ?_; refine SS.val (R.move rfl rfl) rfl rfl ?_; refine SS.val (R.move rfl rfl) rfl rfl ?_; refine SS.val (R.quoNc rfl rfl rfl rfl (by omega) (by omega)) rfl rfl ?_; refine SS.val (R.index rfl rfl rfl (I.ixS1 rfl (by omega))) rfl rfl ?_; refine SS.val (R.load rfl rfl (I.ld1 rfl (by assumption))) rfl rfl ?_; refine SS.val (R.move rfl rfl) rfl rfl ?_; refine SS.val (R.remNc rfl rfl rfl rfl (by omega)) rfl rfl ?_)
      refine SS.call (R.call rfl rfl rfl) rfl rfl (pow_any (i % 64) (by omega) _) ?_
      refine SS.val (R.addUN rfl rfl rfl hlt2) rfl rfl ?_
      (refine SS.val (R.index rfl rfl rfl (I.ixS1 rfl (by omega))) rfl rfl ?_; refine SS.nil ?_)
      refine LL.store rfl rfl rfl rfl r (by rw [wordsU_len]; omega) rfl rfl rfl rfl ?_
      intro W2 r2 g2 z2
      rw [Nat.zero_add, wordsU_succ ws i x hwf hx _ hsum.symm] at r2
      (refine LL.nil ?_; refine EE.inN ?_; refine EE.thenN ?_; refine CC.region ?_; refine LL.val (R.move rfl rfl) rfl rfl rfl ?_; refine LL.val (R.addNc rfl rfl rfl rfl (by omega)) rfl rfl rfl ?_; refine LL.val (R.assign rfl rfl) rfl rfl rfl ?_; refine LL.nil ?_)
      exact EE.round (i + 1) ⟨rfl, rfl, rfl, trivial⟩ ⟨by omega, q.drew.grown g2 q.size (by rintro k ⟨⟩; omega), r2⟩ (by omega)
    | false =>
      rw [hwb] at hc1
      (refine CC.seq ?_; refine CC.seq ?_; refine CC.region ?_; refine LL.val (R.move rfl rfl) rfl rfl rfl ?_; refine LL.val (R.move rfl rfl) rfl rfl rfl ?_; refine LL.val (R.len rfl rfl rfl rfl) rfl rfl rfl ?_; refine LL.val (R.ltT rfl rfl rfl (by omega)) rfl rfl rfl ?_; refine LL.nilS ?_; refine CC.yes rfl ?_; refine CC.skip ?_; refine EE.thenN ?_; refine CC.seq ?_; refine CC.block ?_; refine CC.seq ?_; refine CC.region ?_; refine LL.val (R.move rfl rfl) rfl rfl rfl ?_; refine LL.val (R.move rfl rfl) rfl rfl rfl ?_; refine LL.val (R.index rfl rfl rfl (I.ixS1 rfl (by omega))) rfl rfl rfl ?_; refine LL.val (R.load rfl rfl (I.ld1 rfl (by assumption))) rfl rfl rfl ?_; refine LL.nilS ?_; refine CC.no rfl ?_; refine CC.skip ?_; refine EE.inN ?_; refine EE.thenN ?_; refine CC.region ?_; refine LL.val (R.move rfl rfl) rfl rfl rfl ?_; refine LL.val (R.addNc rfl rfl rfl rfl (by omega)) rfl rfl rfl ?_; refine LL.val (R.assign rfl rfl) rfl rfl rfl ?_; refine LL.nil ?_)
      rw [wordsU_same ws i hwf hwb] at r
      exact EE.round (i + 1) ⟨rfl, rfl, rfl, trivial⟩ ⟨by omega, q, r⟩ (by omega)
  · obtain rfl : i = n := by omega
    rw [wordsU_full ws i hwf hr] at r
    (refine CC.seq ?_; refine CC.seq ?_; refine CC.region ?_; refine LL.val (R.move rfl rfl) rfl rfl rfl ?_; refine LL.val (R.move rfl rfl) rfl rfl rfl ?_; refine LL.val (R.len rfl rfl rfl rfl) rfl rfl rfl ?_; refine LL.val (R.ltF rfl rfl rfl (by omega)) rfl rfl rfl ?_; refine LL.nilS ?_; refine CC.no rfl ?_; refine CC.exit ?_; refine EE.thenX ?_; refine EE.thenX ?_; refine EE.inX ?_; refine EE.thenN ?_; refine CC.seq ?_; refine CC.region ?_; refine LL.val (R.move rfl rfl) rfl rfl rfl ?_; refine LL.val (R.assign rfl rfl) rfl rfl rfl ?_; refine LL.nilS ?_; refine CC.ret ?_)
    refine EE.ret _ rfl rfl ?_
    have := RowL.ownsT (base := w.heap.size) uEnc r (by omega) (by rw [hN]; simp [maxLen]; omega)
    rw [hN] at this
    exact ⟨_, rfl, this, q⟩
end Go.Proofs.Ytojoaplbgcdapaa
