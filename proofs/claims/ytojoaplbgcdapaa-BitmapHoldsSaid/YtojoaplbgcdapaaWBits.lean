/- words.places, Bits, Ones, by the new walk. -/
import Derived.Test.YtojoaplbgcdapaaProg
import Derived.Test.YtojoaplbgcdapaaSeq
import Derived.IntWalk
import Derived.Tactics
namespace Go.Proofs.Ytojoaplbgcdapaa
set_option linter.unusedVariables false
set_option linter.unusedSimpArgs false
open Go.RowKit Go.Shelf

theorem range_snoc (k : Nat) : List.range k ++ [k] = List.range (k + 1) := List.range_succ.symm

theorem part_range {n k : Nat} (h : k < n) : Part (fun xs => xs = List.range n) (List.range k ++ [k]) := by
  refine ⟨_, rfl, ?_⟩
  rw [range_snoc]
  obtain ⟨d, rfl⟩ := Nat.exists_eq_add_of_lt h
  exact ⟨(List.range d).map (k + 1 + ·), by rw [show k + d + 1 = (k + 1) + d by omega]; exact List.range_add.symm⟩

theorem range_of_part {k : Nat} {pre : List Nat} (h : Part (fun xs => xs = List.range 64) (pre ++ [k])) : pre = List.range k ∧ k < 64 := by
  obtain ⟨_, rfl, t, ht⟩ := h
  have hl : pre.length < 64 := by have := congrArg List.length ht; simp at this; omega
  have hk : k = pre.length := by
    have := congrArg (·[pre.length]?) ht
    simp [hl] at this
    omega
  refine ⟨?_, by omega⟩
  have h1 : pre = (List.range 64).take pre.length := by rw [← ht]; simp
  rw [h1, hk, List.take_range]
  congr 1
  omega

/-- The bits that are set, rising. -/
def ones (x : Nat) : List Nat := (List.range 64).filter fun i => x >>> i % 2 == 1

def onesTo (x k : Nat) : List Nat := (List.range k).filter fun i => x >>> i % 2 == 1

theorem onesTo_snoc (x k : Nat) : onesTo x (k + 1) = onesTo x k ++ (if x >>> k % 2 = 1 then [k] else []) := by
  unfold onesTo
  rw [List.range_succ, List.filter_append]
  by_cases h : x >>> k % 2 = 1 <;> simp [h]

theorem ones_done {x k : Nat} (hk : k ≤ 64) (h : x >>> k = 0) : onesTo x k = ones x := by
  unfold onesTo ones
  obtain ⟨d, hd⟩ := Nat.exists_eq_add_of_le hk
  rw [hd, List.range_add, List.filter_append]
  have : List.filter (fun i => x >>> i % 2 == 1) (List.map (k + ·) (List.range d)) = [] := by
    rw [List.filter_eq_nil_iff]
    intro i hi
    obtain ⟨j, _, rfl⟩ := List.mem_map.1 hi
    simp [Nat.shiftRight_add, h]
  rw [this]; simp

theorem part_ones {x k : Nat} (hk : k < 64) (h : x >>> k % 2 = 1) : Part (fun xs => xs = ones x) (onesTo x k ++ [k]) := by
  refine ⟨_, rfl, ?_⟩
  have := onesTo_snoc x k
  rw [if_pos h] at this
  rw [← this]
  unfold onesTo ones
  obtain ⟨d, hd⟩ := Nat.exists_eq_add_of_le (show k + 1 ≤ 64 from hk)
  rw [hd, show List.range (k + 1 + d) = _ from List.range_add, List.filter_append]
  exact ⟨_, rfl⟩

theorem onesTo_len (x k : Nat) : (onesTo x k).length ≤ k := by
  have := List.length_filter_le (fun i => x >>> i % 2 == 1) (List.range k)
  unfold onesTo
  exact Nat.le_trans this (by simp)

abbrev encK (k : Nat) : List Value := [.int .i64 (k : Int)]
theorem shr_run {P : Program} {w : World} {o : Oper} {n : Nat} {D : List Deferred} {M : Slots} {x y : Operand} {t u : TypeId} {a b : Nat} (ho : o.op = .binOp .shr t x y u) (hx : evM M x = some (.int .u64 (a : Int))) (hy : evM M y = some (.int .i64 (b : Int))) (hb : b < 64) : Runs P n D M o w (.value (.int .u64 ((a / 2 ^ b : Nat) : Int))) w :=
  R.bin ho hx hy (by
    have h1 : ¬ ((b : Int) < 0) := by omega
    have h2 : min b 64 = b := by omega
    have h3 : ((a : Int).fdiv (2 ^ b)) = ((a / 2 ^ b : Nat) : Int) := by rw [Int.fdiv_eq_ediv_of_nonneg _ (Int.le_of_lt (Int.pow_pos (by decide)))]; simp
    simp [eqGuard, binOp, Op.shift, h1, IntKind.bits, h2, h3])
theorem R.shrN {P : Program} {w : World} {o : Oper} {n : Nat} {D : List Deferred} {M : Slots} {x y : Operand} {t u : TypeId} {a b z : Nat} (ho : o.op = .binOp .shr t x y u) (hx : evM M x = some (.int .u64 (a : Int))) (hy : evM M y = some (.int .i64 (b : Int))) (hb : b < 64) (hz : a >>> b = z) : Runs P n D M o w (.value (.int .u64 (z : Int))) w := by
  subst hz
  rw [Nat.shiftRight_eq_div_pow]
  exact shr_run ho hx hy hb
theorem R.and1 {P : Program} {w : World} {o : Oper} {n : Nat} {D : List Deferred} {M : Slots} {x y : Operand} {t u : TypeId} {a : Nat} (ho : o.op = .binOp .and t x y u) (hx : evM M x = some (.int .u64 (a : Int))) (hy : evM M y = some (.int .u64 1)) (ha : a < 18446744073709551616) : Runs P n D M o w (.value (.int .u64 ((a % 2 : Nat) : Int))) w := by
  rw [← Nat.and_one_is_mod]
  exact R.andU (b := 1) ho hx hy ha (by decide)

theorem places_any (w : World) : Calls Try.prog 47 #[] w fun e w' => e = .returned (.func (.func 51) #[] #[]) ∧ w = w' := by
  refine X.fn Try.func47 rfl (n := 1) rfl rfl ?_
  (refine CC.seq ?_; refine CC.region ?_; refine LL.val (R.assign rfl rfl) rfl rfl rfl ?_; refine LL.nilS ?_; refine CC.seq ?_; refine CC.region ?_; refine LL.val (R.assign rfl rfl) rfl rfl rfl ?_; refine LL.nilS ?_; refine CC.ret ?_)
  refine EE.ret _ rfl rfl ?_
  exact ⟨rfl, rfl⟩
theorem places_givesM (D : Nat → Prop) (w : World) : GivesM Try.prog 51 ([] : List Value).toArray (fun k => (encK k).toArray) D (fun xs => xs = List.range 64) w := by
  intro l J Jx W hW hJ hJx hY h0
  rw [show (#[.func (.yield l) #[] #[]] ++ ([] : List Value).toArray : Array Value) = #[.func (.yield l) #[] #[]] from rfl]
  refine X.fn Try.func51 rfl (n := 11) rfl rfl ?_
  (refine CC.seq ?_; refine CC.region ?_; refine LL.val (R.move rfl rfl) rfl rfl rfl ?_; refine LL.nilS ?_; refine CC.block ?_)
  refine CC.loop (α := Nat) (fun k => [(0, .func (.yield l) #[] #[]), (3, .int .i64 (k : Int))]) (fun k wr => k ≤ 64 ∧ J W.heap.size (List.range k) wr ∧ W.heap.size ≤ wr.heap.size) (fun k => 64 - k) 0 ⟨rfl, rfl, trivial⟩ ⟨by omega, h0 _, Nat.le_refl _⟩ ?_
  intro k wr ⟨hk, hJk, hsz⟩
  by_cases hlt : k < 64
  · (refine CC.seq ?_; refine CC.region ?_; refine LL.val (R.ltT rfl rfl rfl (by omega)) rfl rfl rfl ?_; refine LL.nilS ?_; refine CC.seq ?_; refine CC.yes rfl ?_; refine CC.skip ?_; refine EE.thenN ?_; refine CC.seq ?_; refine CC.block ?_; refine CC.seq ?_; refine CC.region ?_; refine LL.val (R.move rfl rfl) rfl rfl rfl ?_; refine LL.val (R.assign rfl rfl) rfl rfl rfl ?_; refine LL.nilS ?_; refine CC.seq ?_; refine CC.region ?_; refine LL.val (R.move rfl rfl) rfl rfl rfl ?_; refine LL.val (R.move rfl rfl) rfl rfl rfl ?_)
    refine LL.yield (vs := encK k) rfl rfl rfl rfl rfl (hY _ _ k wr (Nat.le_refl _) hsz hJk (part_range hlt)) ?_
    rintro e W3 ⟨hs3, (⟨rfl, hJ4, hb4⟩ | ⟨rfl, hJx4⟩)⟩
    · refine ⟨_, rfl, ?_⟩
      (refine LL.val (R.not rfl rfl) rfl rfl rfl ?_; refine LL.nilS ?_; refine CC.no rfl ?_; refine CC.skip ?_; refine EE.inN ?_; refine EE.thenN ?_; refine CC.region ?_; refine LL.val (R.addNc rfl rfl rfl rfl (by omega)) rfl rfl rfl ?_; refine LL.val (R.move rfl rfl) rfl rfl rfl ?_; refine LL.nil ?_)
      exact EE.round (k + 1) ⟨rfl, rfl, trivial⟩ ⟨by omega, by rw [← range_snoc]; exact hJ4, Nat.le_trans hsz hb4.size⟩ (by omega)
    · refine ⟨_, rfl, ?_⟩
      (refine LL.val (R.not rfl rfl) rfl rfl rfl ?_; refine LL.nilS ?_; refine CC.yes rfl ?_; refine CC.ret ?_; refine EE.inR ?_; refine EE.thenR ?_; refine EE.thenR ?_; refine EE.inR ?_)
      refine EE.ret [] rfl rfl ?_
      exact ⟨⟨_, rfl⟩, .inr ⟨_, _, part_range hlt, hJx4⟩⟩
  · obtain rfl : k = 64 := by omega
    (refine CC.seq ?_; refine CC.region ?_; refine LL.val (R.ltF rfl rfl rfl (by omega)) rfl rfl rfl ?_; refine LL.nilS ?_; refine CC.seq ?_; refine CC.no rfl ?_; refine CC.exit ?_; refine EE.thenX ?_; refine EE.thenX ?_; refine EE.inX ?_)
    refine EE.end [] rfl rfl ?_
    exact ⟨⟨_, rfl⟩, .inl ⟨_, _, rfl, hJk⟩⟩

set_option maxRecDepth 100000 in
set_option maxHeartbeats 2000000 in
theorem bits_givesM (b x : Nat) (hx : x < 18446744073709551616) (w : World) (hc : RowL w b 61 [.int .u64 (x : Int)]) :
    GivesM Try.prog 46 [Value.pointer (some ⟨b, 0, none⟩)].toArray (fun k => (encK k).toArray) (· = b) (fun xs => xs = ones x) w := by
  intro l J Jx W hW hJ hJx hY h0
  have hcW := hc.below hW hc.lt
  have hbl := hcW.lt
  rw [show (#[.func (.yield l) #[] #[]] ++ [Value.pointer (some ⟨b, 0, none⟩)].toArray : Array Value) = #[.func (.yield l) #[] #[], .pointer (some ⟨b, 0, none⟩)] from rfl]
  refine X.fnM Try.func46 rfl (n := 22) rfl rfl ?_
  (refine CC.seq ?_; refine CC.region ?_)
  refine LL.box [.func (.yield l) #[] #[]] rfl rfl rfl rfl rfl ?_
  intro w1 g1 e1 r1 z1 b1
  have hc1 := hcW.below b1 hbl
  have y1 := b1.size
  have hg1l := r1.lt
  (refine LL.nilS ?_)
  refine CC.straight ?_
  (refine CC.seq ?_; refine CC.label ?_; refine EE.thenN ?_; refine CC.seq ?_; refine CC.region ?_)
  refine LL.call (R.call rfl rfl rfl) rfl rfl rfl (places_any _) ?_
  rintro e w2 ⟨rfl, rfl⟩
  refine ⟨_, rfl, ?_⟩
  (refine LL.nilS ?_; refine CC.block ?_)
  refine CC.rangeM (γ := Unit) (gf := 51) (lb := []) (encs := encK) rfl rfl (places_givesM (· = b) w1) (Below.refl _ _) (fun k e => by omega) (fun _ => rfl) rfl
    (fun m pre W' => J m (onesTo x pre.length) W' ∧ RowL W' g1 39 [.func (.yield l) #[] #[]] ∧ RowL W' b 61 [.int .u64 (x : Int)])
    (fun m pre W' => J m (ones x) W' ∨ ∃ q, Part (fun xs => xs = ones x) q ∧ Jx m q W')
    (fun W' => ∃ m, J m (ones x) W' ∨ ∃ q, Part (fun xs => xs = ones x) q ∧ Jx m q W')
    (fun m s X Y hs ht => ⟨hJ m _ X Y hs.1 (ht.mono (by omega)), ht.same g1 _ hs.2.1 (.inl hg1l), ht.same b _ hs.2.2 (.inl (by omega))⟩)
    (fun m s X Y hs ht => hs.imp (fun h => hJ m _ X Y h (ht.mono (by omega))) (fun ⟨q, hq, h⟩ => ⟨q, hq, hJx m _ X Y h (ht.mono (by omega))⟩))
    (fun m => ⟨hJ m _ _ _ (h0 m) (Turns.of_below b1), r1, hc1⟩)
    (fun m xs W' hS hi => ⟨m, .inl (by have := hi.1; rw [hS, List.length_range] at this; exact this)⟩) (fun m pre W' hp hi => ⟨m, hi⟩)
    (fun k _ => sl [(1, .pointer (some ⟨b, 0, none⟩)), (2, .pointer (some ⟨g1, 0, none⟩)), (3, .int .i64 (k : Int))])
    (fun _ _ _ => True) (fun _ _ => fun _ _ _ _ _ _ _ => trivial) ?assign ?body ?after
  case assign =>
    intro l' m pre k Wr K hm hm2 hi hK
    (refine CC.region ?_; refine LL.val (R.assign rfl rfl) rfl rfl rfl ?_; refine LL.nil ?_)
    exact EE.thenK fun a' F => hK a' Wr () (Stays.refl _ _ _) (Keeps.refl _ _) hi (F.keep _ ⟨rfl, rfl, rfl, trivial⟩) trivial
  case body =>
    intro l' m pre k _ Wr hm hm2 hl hrl hi _ hp
    obtain ⟨hJr, hb1, hbx⟩ := hi
    obtain ⟨rfl, hk⟩ := range_of_part hp
    rw [List.length_range] at hJr
    obtain ⟨q, hq⟩ : ∃ q, x >>> k = q := ⟨_, rfl⟩
    have hql : q < 18446744073709551616 := by rw [← hq]; exact Nat.lt_of_le_of_lt (Nat.shiftRight_le x k) hx
    (refine CC.block ?_; refine CC.seq ?_; refine CC.region ?_; refine LL.val (R.load rfl rfl (I.ld1 rfl (RowL.cell (by assumption) rfl))) rfl rfl rfl ?_; refine LL.val (R.move rfl rfl) rfl rfl rfl ?_)
    refine LL.val (R.shrN (z := q) rfl rfl rfl hk hq) rfl rfl rfl ?_
    by_cases hz : q = 0
    · (refine LL.val (R.assign rfl rfl) rfl rfl rfl ?_; refine LL.nilS ?_; refine CC.block ?_; refine CC.seq ?_; refine CC.region ?_; refine LL.val (R.move rfl rfl) rfl rfl rfl ?_; refine LL.val (R.eqT rfl rfl rfl (by omega)) rfl rfl rfl ?_; refine LL.val (R.assign rfl rfl) rfl rfl rfl ?_; refine LL.nilS ?_; refine CC.yes rfl ?_; refine CC.exit ?_; refine EE.inX' rfl ?_; refine EE.inX' rfl ?_)
      exact EE.roundX ⟨Stays.refl _ _ _, rfl, .inl (by rw [← ones_done (Nat.le_of_lt hk) (by rw [hq, hz])]; exact hJr)⟩
    · (refine LL.val (R.assign rfl rfl) rfl rfl rfl ?_; refine LL.nilS ?_; refine CC.block ?_; refine CC.seq ?_; refine CC.region ?_; refine LL.val (R.move rfl rfl) rfl rfl rfl ?_; refine LL.val (R.eqF rfl rfl rfl (by omega)) rfl rfl rfl ?_; refine LL.val (R.assign rfl rfl) rfl rfl rfl ?_; refine LL.nilS ?_; refine CC.no rfl ?_; refine CC.seq ?_; refine CC.region ?_; refine LL.val (R.move rfl rfl) rfl rfl rfl ?_)
      refine LL.val (R.and1 rfl rfl rfl hql) rfl rfl rfl ?_
      have hsn := onesTo_snoc x k
      rw [hq] at hsn
      have hlen : (List.range k ++ [k]).length = k + 1 := by simp
      by_cases h1 : q % 2 = 0
      · rw [if_neg (by omega), List.append_nil] at hsn
        (refine LL.val (R.eqT rfl rfl rfl (by omega)) rfl rfl rfl ?_; refine LL.val (R.assign rfl rfl) rfl rfl rfl ?_; refine LL.nilS ?_; refine CC.yes rfl ?_; refine CC.exit ?_; refine EE.inX' rfl ?_; refine EE.inX ?_)
        exact EE.roundN ⟨Stays.refl _ _ _, Keeps.refl _ _, by rw [hlen, hsn]; exact hJr, hb1, hbx⟩
      · rw [if_pos (by omega)] at hsn
        (refine LL.val (R.eqF rfl rfl rfl (by omega)) rfl rfl rfl ?_; refine LL.val (R.assign rfl rfl) rfl rfl rfl ?_; refine LL.nilS ?_; refine CC.no rfl ?_; refine CC.seq ?_; refine CC.region ?_; refine LL.val (R.load rfl rfl (I.ld1 rfl (RowL.cell (by assumption) rfl))) rfl rfl rfl ?_; refine LL.val (R.move rfl rfl) rfl rfl rfl ?_)
        refine LL.yield (vs := encK k) rfl rfl rfl rfl rfl (hY m (onesTo x k) k Wr (by omega) hm2 hJr (part_ones hk (by rw [hq]; omega))) ?_
        rintro e W3 ⟨hs3, (⟨rfl, hJ4, hb4⟩ | ⟨rfl, hJx4⟩)⟩
        · refine ⟨_, rfl, ?_⟩
          (refine LL.val (R.not rfl rfl) rfl rfl rfl ?_; refine LL.val (R.assign rfl rfl) rfl rfl rfl ?_; refine LL.nilS ?_; refine CC.no rfl ?_; refine CC.skip ?_; refine EE.inN ?_; refine EE.inN ?_)
          exact EE.roundN ⟨hs3.mono (by omega), hb4, by rw [hlen, hsn]; exact hJ4, hs3.same g1 _ (by omega) hb1 (.inl (by omega)), hbx.same (hb4.same b rfl)⟩
        · refine ⟨_, rfl, ?_⟩
          (refine LL.val (R.not rfl rfl) rfl rfl rfl ?_; refine LL.val (R.assign rfl rfl) rfl rfl rfl ?_; refine LL.nilS ?_; refine CC.yes rfl ?_; refine CC.exit ?_; refine EE.inX' rfl ?_; refine EE.inX' rfl ?_)
          exact EE.roundX ⟨hs3.mono (by omega), rfl, .inr ⟨_, part_ones hk (by rw [hq]; omega), hJx4⟩⟩
  case after =>
    rintro E Wd hE ⟨m, hA⟩ hK
    refine EE.noN ?_
    refine EE.end1 hK [] rfl rfl ?_
    refine ⟨⟨_, rfl⟩, ?_⟩
    rcases hA with h | ⟨q, hq, h⟩
    · exact .inl ⟨m, _, rfl, (hJ m).putObj _ h (by omega) hK rfl⟩
    · exact .inr ⟨m, q, hq, (hJx m).putObj _ h (by omega) hK rfl⟩

theorem wbits_any (x : Nat) (w : World) : Calls Try.prog 27 #[.int .u64 (x : Int)] w fun e w' => ∃ b, e = .returned (.func (.func 46) #[] [Value.pointer (some ⟨b, 0, none⟩)].toArray) ∧ w.heap.size = b ∧ RowL w' b 61 [.int .u64 (x : Int)] ∧ Below w.heap.size w w' := by
  refine X.fn Try.func27 rfl (n := 4) rfl rfl ?_
  (refine CC.seq ?_; refine CC.region ?_)
  refine LL.box [.int .u64 (x : Int)] rfl rfl rfl rfl rfl ?_
  intro w1 g1 e1 r1 z1 b1
  (refine LL.val (R.assign rfl rfl) rfl rfl rfl ?_; refine LL.nilS ?_; refine CC.seq ?_; refine CC.region ?_; refine LL.val (R.func rfl rfl rfl) rfl rfl rfl ?_; refine LL.val (R.assign rfl rfl) rfl rfl rfl ?_; refine LL.nilS ?_; refine CC.ret ?_)
  refine EE.ret _ rfl rfl ?_
  exact ⟨g1, rfl, e1.symm, r1, b1⟩

set_option maxRecDepth 100000 in
set_option maxHeartbeats 2000000 in
theorem wones_any (x : Nat) (hx : x < 18446744073709551616) (w : World) : Calls Try.prog 45 #[.int .u64 (x : Int)] w fun e w' => e = .returned (.int .i64 ((ones x).length : Int)) ∧ Below w.heap.size w w' := by
  have hlx : (ones x).length ≤ 64 := onesTo_len x 64
  refine X.fnM Try.func45 rfl (n := 10) rfl rfl ?_
  (refine CC.seq ?_; refine CC.region ?_; refine LL.val (R.assign rfl rfl) rfl rfl rfl ?_; refine LL.nilS ?_; refine CC.seq ?_; refine CC.region ?_)
  refine LL.alloc [.int .i64 0] rfl rfl rfl rfl rfl ?_
  intro w1 g3 e1 r1 z1 b1
  skip
  refine LL.store (v := .int .i64 0) rfl rfl rfl rfl r1 (by decide) rfl rfl rfl rfl ?_
  intro w2 r2 g2 z2
  have q2 : Below w.heap.size w w2 := b1.grown g2 (by omega) (by rintro k ⟨⟩; omega)
  have y2 := q2.size
  (refine LL.nilS ?_; refine CC.seq ?_; refine CC.seq ?_; refine CC.region ?_; refine LL.val (R.move rfl rfl) rfl rfl rfl ?_)
  refine LL.call (R.call rfl rfl rfl) rfl rfl rfl (wbits_any x _) ?_
  rintro e w3 ⟨b, rfl, eb, rb, b3⟩
  refine ⟨_, rfl, ?_⟩
  have y3 := b3.size
  have r3 := r2.below b3 r2.lt
  have q3 : Below w.heap.size w w3 := q2.trans (b3.mono y2)
  have hg3 := r2.lt
  have hg3w : w.heap.size ≤ g3 := by omega
  have hbl := rb.lt
  (refine LL.nilS ?_; refine CC.block ?_)
  refine CC.rangeM (γ := Unit) (gf := 46) (lb := [Value.pointer (some ⟨b, 0, none⟩)]) (encs := encK) rfl rfl (bits_givesM b x hx w3 rb) (Below.refl _ _) (fun k e => by omega) (fun _ => rfl) rfl
    (fun m pre W' => Below w.heap.size w W' ∧ RowL W' g3 3 [.int .i64 (pre.length : Int)])
    (fun m pre W' => False)
    (fun W' => Below w.heap.size w W' ∧ RowL W' g3 3 [.int .i64 ((ones x).length : Int)])
    (fun m s X Y hs ht => ⟨hs.1.trans (ht.below (by omega) hs.1.size), ht.same g3 _ hs.2 (.inl (by omega))⟩) (fun m s X Y hs ht => hs)
    (fun m => ⟨q3, r3⟩) (fun m xs W' hS hi => by rw [hS] at hi; exact hi) (fun m pre W' hp hi => hi.elim)
    (fun k _ => sl [(3, .pointer (some ⟨g3, 0, none⟩))]) (fun _ _ _ => True) (fun _ _ => fun _ _ _ _ _ _ _ => trivial) ?assign ?body ?after
  case assign =>
    intro l' m pre k Wr K hm hm2 hi hK
    (refine CC.skip ?_)
    exact EE.thenK fun a' F => hK a' Wr () (Stays.refl _ _ _) (Keeps.refl _ _) hi (F.keep _ ⟨rfl, trivial⟩) trivial
  case body =>
    intro l' m pre k _ Wr hm hm2 hl hrl hi _ hp
    obtain ⟨h1, h2⟩ := hi
    have hpl : pre.length ≤ 64 := by
      obtain ⟨_, rfl, hpp⟩ := hp
      have := hpp.length_le
      simp at this
      omega
    (refine CC.block ?_; refine CC.region ?_; refine LL.val (R.load rfl rfl (I.ld1 rfl (RowL.cell (by assumption) rfl))) rfl rfl rfl ?_; refine LL.val (R.addNc rfl rfl rfl rfl (by omega)) rfl rfl rfl ?_)
    refine LL.store rfl rfl rfl rfl h2 (by exact Nat.le_of_ble_eq_true rfl) rfl rfl rfl rfl ?_
    intro w4 r4 g4 z4
    (refine LL.nil ?_; refine EE.inN ?_)
    refine EE.roundN ⟨Stays.of_grown g4 (by omega), Keeps.of_grown g4 (by rintro k rfl; have := h1.size; have := h2.lt; omega), h1.grown g4 h1.size (by rintro k ⟨⟩; omega), ?_⟩
    have hlen : (pre ++ [k]).length = pre.length + 1 := by simp
    rw [hlen]
    exact r4
  case after =>
    rintro E Wd hE ⟨h1, h2⟩ hK
    (refine EE.thenN ?_; refine CC.seq ?_; refine CC.region ?_; refine LL.val (R.load rfl rfl (I.ld1 rfl (RowL.cell (by assumption) rfl))) rfl rfl rfl ?_; refine LL.val (R.assign rfl rfl) rfl rfl rfl ?_; refine LL.nilS ?_; refine CC.ret ?_)
    refine EE.ret1 hK [.int .i64 ((ones x).length : Int)] rfl rfl ?_
    exact ⟨rfl, taken_bel h1 (by omega) (Nat.le_refl _)⟩
end Go.Proofs.Ytojoaplbgcdapaa
