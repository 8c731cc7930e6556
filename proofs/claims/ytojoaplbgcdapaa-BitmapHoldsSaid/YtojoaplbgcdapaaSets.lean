/- bitmap: Set, Free. -/
import Derived.Test.YtojoaplbgcdapaaSetB
namespace Go.Proofs.Ytojoaplbgcdapaa
set_option linter.unusedVariables false
set_option linter.unusedSimpArgs false
open Go.RowKit Go.Shelf

theorem below_grown {w w' : World} (h : Below w.heap.size w w') (r : Option Nat) : w.grownBy w' r := ⟨h.os, h.tape, h.output, h.size, fun j hj _ => h.block j hj⟩
theorem OwnsT.block' {α : Type} {enc : α → List Value} {k : Nat} {w : World} {base e n cap : Nat} {a : Option Addr} {ts : List α} (h : OwnsT enc k w base e (.slice a n cap) ts) : (a = Option.none ∧ ts = []) ∨ ∃ g, a = some ⟨g, 0, Option.none⟩ := by
  rcases h.2 with ⟨e1, h0⟩ | ⟨g, cap', cur, e1, _⟩
  · cases e1; exact .inl ⟨rfl, List.eq_nil_of_length_eq_zero h0⟩
  · cases e1; exact .inr ⟨g, rfl⟩
/-- So many bits from one on, anew. -/
def putsW (ws : List Nat) (a m : Nat) (b : Bool) : List Nat := (List.range m).foldl (fun ws i => putW ws (a + i) b) ws
theorem putsW_step (ws : List Nat) (a m : Nat) (b : Bool) : putsW ws a (m + 1) b = putW (putsW ws a m b) (a + m) b := by
  unfold putsW
  rw [List.range_succ, List.foldl_append]
  rfl
theorem putsW_len (ws : List Nat) (a m : Nat) (b : Bool) : (putsW ws a m b).length = ws.length := by
  induction m with
  | zero => rfl
  | succ m ih => rw [putsW_step, putW_len, ih]
theorem wb_puts {ws : List Nat} {a m j : Nat} {b : Bool} (h : a + m ≤ 64 * ws.length) : wb (putsW ws a m b) j = if a ≤ j ∧ j < a + m then b else wb ws j := by
  induction m with
  | zero => rw [if_neg (by omega)]; rfl
  | succ m ih =>
    rw [putsW_step, wb_put (by rw [putsW_len]; omega), ih (by omega)]
    by_cases h1 : j = a + m
    · rw [if_pos h1, if_pos (by omega)]
    · rw [if_neg h1]
      by_cases h2 : a ≤ j ∧ j < a + m
      · rw [if_pos h2, if_pos (by omega)]
      · rw [if_neg h2, if_neg (by omega)]
/-- What Set, Free make of words. -/
def runP (ws : List Nat) (bits : Nat) (at_ many : Int) (b : Bool) : List Nat := if spanP bits at_ many = 0 then putsW ws at_.toNat many.toNat b else ws

set_option maxRecDepth 100000 in
set_option maxHeartbeats 2000000 in
theorem cset_any {g cap N base : Nat} {ws : List Nat} (i : Nat) (w : World) (hN : ws.length = N) (h : OwnsT uE 1 w base 61 (.slice (some ⟨g, 0, none⟩) N cap) ws) (hi : i < 64 * N) (hl : N ≤ 1048576) (hws : ∀ x ∈ ws, x < 18446744073709551616) :
    Calls Try.prog 42 #[.agg #[.slice (some ⟨g, 0, none⟩) N cap], .int .i64 (i : Int)] w fun e w' => e = .returned (.tuple #[]) ∧ OwnsT uE 1 w' base 61 (.slice (some ⟨g, 0, none⟩) N cap) (putW ws i true) ∧ w.grownBy w' (some g) := by
  have hil : i / 64 < ws.length := by omega
  obtain ⟨x, hx⟩ : ∃ x, ws[i / 64]? = some x := ⟨_, List.getElem?_eq_getElem hil⟩
  have hxl : x < 18446744073709551616 := hws x (List.mem_of_getElem? hx)
  obtain ⟨b, off, e0, hbl, hcs⟩ := (h.reads uEnc).get uEnc hx
  cases e0
  refine X.fn Try.func42 rfl (n := 14) rfl rfl ?_
  (refine CC.seq ?_; refine CC.region ?_)
  refine LL.box [.slice (some ⟨g, 0, none⟩) N cap] rfl rfl rfl rfl rfl ?_
  intro w1 g1 e1 r1 z1 b1
  have hc0 : w1.drew.cell? ⟨g, 0 + i / 64, none⟩ = some (.int .u64 (x : Int)) := by simpa using ((hcs.below b1 hbl).below (Below.refl w1.heap.size w1).drew (Nat.lt_of_lt_of_le hbl b1.size)).at (j := 0) (u := .int .u64 (x : Int)) rfl
  have r1d := r1.drew
  have o1 := (h.below b1).below below_drew
  have hm := pow64 i
  (refine LL.nilS ?_)
  refine CC.tail 10 (by kernel_rfl) (by kernel_rfl) ?_
  (refine SS.val (R.field rfl rfl (I.fld rfl)) rfl rfl ?_; refine SS.val (R.load rfl rfl (I.ld1 rfl (RowL.cell (by assumption) rfl))) rfl rfl ?_; refine SS.val (R.move rfl rfl) rfl rfl ?_)
  refine SS.call (R.call rfl rfl rfl) rfl rfl (word_any i _ (by omega)) ?_
  (refine SS.val (R.index rfl rfl rfl (I.ixS1 rfl (by omega))) rfl rfl ?_; refine SS.val (R.load rfl rfl (I.ld1 rfl (by assumption))) rfl rfl ?_; refine SS.val (R.move rfl rfl) rfl rfl ?_)
  refine SS.call (R.call rfl rfl rfl) rfl rfl (mask_any i _ (by omega)) ?_
  refine SS.val (R.orU rfl rfl rfl hxl hm) rfl rfl ?_
  (refine SS.val (R.index rfl rfl rfl (I.ixS1 rfl (by omega))) rfl rfl ?_; refine SS.nil ?_)
  refine LL.storeU (i := 0 + i / 64) rfl rfl rfl rfl o1 (by omega) rfl rfl ?_
  intro w2 o2 g2
  rw [Nat.zero_add] at o2
  (refine LL.nil ?_)
  refine EE.end _ rfl rfl ?_
  refine ⟨rfl, ?_, grown_trans (below_grown (b1.drew) _) g2⟩
  unfold putW
  rw [hx]
  exact o2

set_option maxRecDepth 100000 in
set_option maxHeartbeats 2000000 in
theorem cfree_any {g cap N base : Nat} {ws : List Nat} (i : Nat) (w : World) (hN : ws.length = N) (h : OwnsT uE 1 w base 61 (.slice (some ⟨g, 0, none⟩) N cap) ws) (hi : i < 64 * N) (hl : N ≤ 1048576) (hws : ∀ x ∈ ws, x < 18446744073709551616) :
    Calls Try.prog 44 #[.agg #[.slice (some ⟨g, 0, none⟩) N cap], .int .i64 (i : Int)] w fun e w' => e = .returned (.tuple #[]) ∧ OwnsT uE 1 w' base 61 (.slice (some ⟨g, 0, none⟩) N cap) (putW ws i false) ∧ w.grownBy w' (some g) := by
  have hil : i / 64 < ws.length := by omega
  obtain ⟨x, hx⟩ : ∃ x, ws[i / 64]? = some x := ⟨_, List.getElem?_eq_getElem hil⟩
  have hxl : x < 18446744073709551616 := hws x (List.mem_of_getElem? hx)
  obtain ⟨b, off, e0, hbl, hcs⟩ := (h.reads uEnc).get uEnc hx
  cases e0
  refine X.fn Try.func44 rfl (n := 14) rfl rfl ?_
  (refine CC.seq ?_; refine CC.region ?_)
  refine LL.box [.slice (some ⟨g, 0, none⟩) N cap] rfl rfl rfl rfl rfl ?_
  intro w1 g1 e1 r1 z1 b1
  have hc0 : w1.drew.cell? ⟨g, 0 + i / 64, none⟩ = some (.int .u64 (x : Int)) := by simpa using ((hcs.below b1 hbl).below (Below.refl w1.heap.size w1).drew (Nat.lt_of_lt_of_le hbl b1.size)).at (j := 0) (u := .int .u64 (x : Int)) rfl
  have r1d := r1.drew
  have o1 := (h.below b1).below below_drew
  have hm := pow64 i
  (refine LL.nilS ?_)
  refine CC.tail 10 (by kernel_rfl) (by kernel_rfl) ?_
  (refine SS.val (R.field rfl rfl (I.fld rfl)) rfl rfl ?_; refine SS.val (R.load rfl rfl (I.ld1 rfl (RowL.cell (by assumption) rfl))) rfl rfl ?_; refine SS.val (R.move rfl rfl) rfl rfl ?_)
  refine SS.call (R.call rfl rfl rfl) rfl rfl (word_any i _ (by omega)) ?_
  (refine SS.val (R.index rfl rfl rfl (I.ixS1 rfl (by omega))) rfl rfl ?_; refine SS.val (R.load rfl rfl (I.ld1 rfl (by assumption))) rfl rfl ?_; refine SS.val (R.move rfl rfl) rfl rfl ?_)
  refine SS.call (R.call rfl rfl rfl) rfl rfl (mask_any i _ (by omega)) ?_
  refine SS.val (R.andNotU rfl rfl rfl hxl hm) rfl rfl ?_
  (refine SS.val (R.index rfl rfl rfl (I.ixS1 rfl (by omega))) rfl rfl ?_; refine SS.nil ?_)
  refine LL.storeU (i := 0 + i / 64) rfl rfl rfl rfl o1 (by omega) rfl rfl ?_
  intro w2 o2 g2
  rw [Nat.zero_add] at o2
  (refine LL.nil ?_)
  refine EE.end _ rfl rfl ?_
  refine ⟨rfl, ?_, grown_trans (below_grown (b1.drew) _) g2⟩
  unfold putW
  rw [hx]
  exact o2

theorem each_any {I : Nat → World → Prop} (f : FuncId) (cap : Array Value) (a m : Nat) (w : World) (hE : entB Try.prog f = true) (ha : a ≤ 1048576) (hm : m ≤ 1048576) (h : ∀ i w', i < m → I i w' → Calls Try.prog f (#[.int .i64 ((a + i : Nat) : Int)] ++ cap) w' fun e w'' => e = .returned (.tuple #[]) ∧ I (i + 1) w'') (h0 : I 0 w) :
    Calls Try.prog 40 #[.int .i64 (a : Int), .int .i64 (m : Int), .func (.func f) #[] cap] w fun e w' => e = .returned (.tuple #[]) ∧ I m w' := by
  refine X.fn Try.func40 rfl (n := 17) rfl rfl ?_
  (refine CC.seq ?_; refine CC.region ?_; refine LL.val (R.move rfl rfl) rfl rfl rfl ?_; refine LL.val (R.move rfl rfl) rfl rfl rfl ?_; refine LL.nilS ?_; refine CC.block ?_)
  refine CC.loop (α := Nat) (fun i => [(0, .int .i64 (a : Int)), (2, .func (.func f) #[] cap), (7, .int .i64 (m : Int)), (8, .int .i64 (i : Int))]) (fun i wr => i ≤ m ∧ I i wr) (fun i => m - i) 0 ⟨rfl, rfl, rfl, rfl, trivial⟩ ⟨by omega, h0⟩ ?_
  rintro i wr ⟨hi, hI⟩
  by_cases h1 : i < m
  · (refine CC.seq ?_; refine CC.region ?_; refine LL.val (R.ltT rfl rfl rfl (by omega)) rfl rfl rfl ?_; refine LL.nilS ?_; refine CC.seq ?_; refine CC.yes rfl ?_; refine CC.skip ?_; refine EE.thenN ?_; refine CC.seq ?_; refine CC.block ?_; refine CC.seq ?_; refine CC.region ?_; refine LL.val (R.move rfl rfl) rfl rfl rfl ?_; refine LL.val (R.assign rfl rfl) rfl rfl rfl ?_; refine LL.nilS ?_; refine CC.region ?_; refine LL.val (R.move rfl rfl) rfl rfl rfl ?_; refine LL.val (R.move rfl rfl) rfl rfl rfl ?_; refine LL.val (R.move rfl rfl) rfl rfl rfl ?_; refine LL.val (R.addN rfl rfl rfl (by omega)) rfl rfl rfl ?_)
    refine LL.call (R.callV rfl rfl rfl hE) rfl rfl rfl (h i wr h1 hI) ?_
    rintro e w2 ⟨rfl, hI2⟩
    refine ⟨_, rfl, ?_⟩
    (refine LL.nil ?_; refine EE.inN ?_; refine EE.thenN ?_; refine CC.region ?_; refine LL.val (R.addNc rfl rfl rfl rfl (by omega)) rfl rfl rfl ?_; refine LL.val (R.move rfl rfl) rfl rfl rfl ?_; refine LL.nil ?_)
    exact EE.round (i + 1) ⟨rfl, rfl, rfl, rfl, trivial⟩ ⟨by omega, hI2⟩ (by omega)
  · obtain rfl : i = m := by omega
    (refine CC.seq ?_; refine CC.region ?_; refine LL.val (R.ltF rfl rfl rfl (by omega)) rfl rfl rfl ?_; refine LL.nilS ?_; refine CC.seq ?_; refine CC.no rfl ?_; refine CC.exit ?_; refine EE.thenX ?_; refine EE.thenX ?_; refine EE.inX ?_)
    refine EE.end _ rfl rfl ?_
    exact ⟨rfl, hI⟩

theorem set1_any {K : Nat → Prop} {g b bits : Nat} {v : Value} {ws : List Nat} (i : Nat) (w : World) (h : BmAt w K g v bits ws) (hb : w.cell? ⟨b, 0, none⟩ = some (.pointer (some ⟨g, 0, none⟩))) (hi : i < bits) :
    Calls Try.prog 41 #[.int .i64 (i : Int), .pointer (some ⟨b, 0, none⟩)] w fun e w' => e = .returned (.tuple #[]) ∧ BmAt w' K g v bits (putW ws i true) ∧ w.grownBy w' v.ownBlock := by
  have hlen := h.len
  have hhi := h.hi
  obtain ⟨a, cap, rfl⟩ := h.form
  rcases h.list.block' with ⟨e1, e0⟩ | ⟨l, e1⟩
  · have := h.lo
    rw [e0] at hlen
    simp at hlen
    omega
  cases e1
  refine X.fn Try.func41 rfl (n := 9) rfl rfl ?_
  (refine CC.region ?_; refine LL.val (R.load rfl rfl (I.ld1 rfl (by assumption))) rfl rfl rfl ?_; refine LL.val (R.nil rfl rfl) rfl rfl rfl ?_; refine LL.val (R.field rfl rfl (I.fld rfl)) rfl rfl rfl ?_)
  refine LL.val (R.load rfl rfl (I.ldN (vs := [.slice (some ⟨l, 0, none⟩) ws.length cap]) rfl rfl (h.row.cells rfl))) rfl rfl rfl ?_
  (refine LL.val (R.move rfl rfl) rfl rfl rfl ?_)
  refine LL.call (R.call rfl rfl rfl) rfl rfl rfl (cset_any i w rfl h.list (by omega) (by omega) h.wf) ?_
  rintro e w2 ⟨rfl, o2, g2⟩
  refine ⟨_, rfl, ?_⟩
  (refine LL.nil ?_)
  refine EE.end _ rfl rfl ?_
  refine ⟨rfl, ⟨h.row.same (g2.block g h.row.lt (by simpa using fun e => h.gv (by rw [e]; rfl))), o2, h.gv, h.lo, h.hi, by rw [putW_len]; exact h.len, putW_wf h.wf, fun j hj => ?_, fun j hj => Nat.lt_of_lt_of_le (h.kl j hj) g2.size, h.kg, h.kv⟩, g2⟩
  rw [wb_put (by omega), if_neg (by omega)]
  exact h.rest j hj

theorem free1_any {K : Nat → Prop} {g b bits : Nat} {v : Value} {ws : List Nat} (i : Nat) (w : World) (h : BmAt w K g v bits ws) (hb : w.cell? ⟨b, 0, none⟩ = some (.pointer (some ⟨g, 0, none⟩))) (hi : i < bits) :
    Calls Try.prog 43 #[.int .i64 (i : Int), .pointer (some ⟨b, 0, none⟩)] w fun e w' => e = .returned (.tuple #[]) ∧ BmAt w' K g v bits (putW ws i false) ∧ w.grownBy w' v.ownBlock := by
  have hlen := h.len
  have hhi := h.hi
  obtain ⟨a, cap, rfl⟩ := h.form
  rcases h.list.block' with ⟨e1, e0⟩ | ⟨l, e1⟩
  · have := h.lo
    rw [e0] at hlen
    simp at hlen
    omega
  cases e1
  refine X.fn Try.func43 rfl (n := 9) rfl rfl ?_
  (refine CC.region ?_; refine LL.val (R.load rfl rfl (I.ld1 rfl (by assumption))) rfl rfl rfl ?_; refine LL.val (R.nil rfl rfl) rfl rfl rfl ?_; refine LL.val (R.field rfl rfl (I.fld rfl)) rfl rfl rfl ?_)
  refine LL.val (R.load rfl rfl (I.ldN (vs := [.slice (some ⟨l, 0, none⟩) ws.length cap]) rfl rfl (h.row.cells rfl))) rfl rfl rfl ?_
  (refine LL.val (R.move rfl rfl) rfl rfl rfl ?_)
  refine LL.call (R.call rfl rfl rfl) rfl rfl rfl (cfree_any i w rfl h.list (by omega) (by omega) h.wf) ?_
  rintro e w2 ⟨rfl, o2, g2⟩
  refine ⟨_, rfl, ?_⟩
  (refine LL.nil ?_)
  refine EE.end _ rfl rfl ?_
  refine ⟨rfl, ⟨h.row.same (g2.block g h.row.lt (by simpa using fun e => h.gv (by rw [e]; rfl))), o2, h.gv, h.lo, h.hi, by rw [putW_len]; exact h.len, putW_wf h.wf, fun j hj => ?_, fun j hj => Nat.lt_of_lt_of_le (h.kl j hj) g2.size, h.kg, h.kv⟩, g2⟩
  rw [wb_put (by omega), if_neg (by omega)]
  exact h.rest j hj

theorem mset_none (p : Option Addr) (at_ many : Int) (w : World) (h : ∀ w2, Below w.heap.size w w2 → Calls Try.prog 29 #[.pointer p] w2 fun e w' => e = .returned (.bool true) ∧ w2 = w') : Calls Try.prog 21 #[.pointer p, .int .i64 at_, .int .i64 many] w fun e w' => e = .returned (.int .i64 1) ∧ Below w.heap.size w w' := by
  refine X.fn Try.func21 rfl (n := 19) rfl rfl ?_
  (refine CC.seq ?_; refine CC.region ?_)
  refine LL.box [.pointer p] rfl rfl rfl rfl rfl ?_
  intro w1 g1 e1 r1 z1 b1
  (refine LL.val (R.assign rfl rfl) rfl rfl rfl ?_; refine LL.nilS ?_; refine CC.seq ?_; refine CC.region ?_; refine LL.val (R.load rfl rfl (I.ld1 rfl (RowL.cell (by assumption) rfl))) rfl rfl rfl ?_; refine LL.val (R.move rfl rfl) rfl rfl rfl ?_; refine LL.val (R.move rfl rfl) rfl rfl rfl ?_)
  refine LL.call (R.call rfl rfl rfl) rfl rfl rfl (span_none p at_ many w1 (h w1 b1)) ?_
  rintro e w2 ⟨rfl, rfl⟩
  refine ⟨_, rfl, ?_⟩
  (refine LL.val (R.assign rfl rfl) rfl rfl rfl ?_; refine LL.nilS ?_; refine CC.seq ?_; refine CC.seq ?_; refine CC.region ?_; refine LL.val (R.move rfl rfl) rfl rfl rfl ?_; refine LL.val (R.eqF rfl rfl rfl (by omega)) rfl rfl rfl ?_; refine LL.nilS ?_; refine CC.no rfl ?_; refine CC.skip ?_; refine EE.thenN ?_; refine CC.seq ?_; refine CC.region ?_; refine LL.val (R.move rfl rfl) rfl rfl rfl ?_; refine LL.val (R.assign rfl rfl) rfl rfl rfl ?_; refine LL.nilS ?_; refine CC.ret ?_)
  refine EE.ret _ rfl rfl ?_
  exact ⟨rfl, b1⟩
set_option maxRecDepth 100000 in
set_option maxHeartbeats 2000000 in
theorem mset_made {K : Nat → Prop} {g bits : Nat} {v : Value} {ws : List Nat} (at_ many : Int) (w : World) (h : BmAt w K g v bits ws) (ha : -9223372036854775808 ≤ at_ ∧ at_ ≤ 9223372036854775807) :
    Calls Try.prog 21 #[.pointer (some ⟨g, 0, none⟩), .int .i64 at_, .int .i64 many] w fun e w' => e = .returned (.int .i64 (spanP bits at_ many : Int)) ∧ BmAt w' K g v bits (runP ws bits at_ many true) ∧ Kept K w w' := by
  have hlo := h.lo
  have hhi := h.hi
  refine X.fn Try.func21 rfl (n := 19) rfl rfl ?_
  (refine CC.seq ?_; refine CC.region ?_)
  refine LL.box [.pointer (some ⟨g, 0, none⟩)] rfl rfl rfl rfl rfl ?_
  intro w1 g1 e1 r1 z1 b1
  have h1 := h.below b1
  have k1 : Kept K w w1 := bkept b1 h.kl
  (refine LL.val (R.assign rfl rfl) rfl rfl rfl ?_; refine LL.nilS ?_; refine CC.seq ?_; refine CC.region ?_; refine LL.val (R.load rfl rfl (I.ld1 rfl (RowL.cell (by assumption) rfl))) rfl rfl rfl ?_; refine LL.val (R.move rfl rfl) rfl rfl rfl ?_; refine LL.val (R.move rfl rfl) rfl rfl rfl ?_)
  refine LL.call (R.call rfl rfl rfl) rfl rfl rfl (span_made at_ many w1 h1 ha) ?_
  rintro e w2 ⟨rfl, rfl⟩
  refine ⟨_, rfl, ?_⟩
  unfold runP
  by_cases hs : spanP bits at_ many = 0
  · rw [if_pos hs, hs]
    have hin : 0 ≤ at_ ∧ at_ ≤ bits ∧ 0 ≤ many ∧ many ≤ (bits : Int) - at_ := by
      unfold spanP at hs
      split at hs
      · cases hs
      · omega
    obtain ⟨a, rfl⟩ : ∃ a : Nat, at_ = a := ⟨at_.toNat, by omega⟩
    obtain ⟨m, rfl⟩ : ∃ m : Nat, many = m := ⟨many.toNat, by omega⟩
    have hne1 : v.ownBlock ≠ some g1 := by
      rcases h.list.above with h0 | ⟨b, h0, _, h2⟩
      · rw [h0]; simp
      · rw [h0]; intro e; cases e; omega
    (refine LL.val (R.assign rfl rfl) rfl rfl rfl ?_; refine LL.nilS ?_; refine CC.seq ?_; refine CC.seq ?_; refine CC.region ?_; refine LL.val (R.move rfl rfl) rfl rfl rfl ?_; refine LL.val (R.eqT rfl rfl rfl (by omega)) rfl rfl rfl ?_; refine LL.nilS ?_; refine CC.yes rfl ?_; refine CC.region ?_; refine LL.val (R.move rfl rfl) rfl rfl rfl ?_; refine LL.val (R.move rfl rfl) rfl rfl rfl ?_; refine LL.val (R.func rfl rfl rfl) rfl rfl rfl ?_)
    refine LL.call (R.call rfl rfl rfl) rfl rfl rfl (each_any (I := fun i w' => BmAt w' K g v bits (putsW ws a i true) ∧ RowL w' g1 24 [.pointer (some ⟨g, 0, none⟩)] ∧ Kept K w w') 41 #[.pointer (some ⟨g1, 0, none⟩)] a m w1 rfl (by omega) (by omega) (fun i w' hi hI => ?_) ⟨h1, r1, k1⟩) ?_
    · obtain ⟨hB, hr, hk⟩ := hI
      refine (set1_any (a + i) w' hB (hr.cell rfl) (by omega)).mono ?_
      rintro e w3 ⟨rfl, hB3, g3⟩
      refine ⟨rfl, ?_, hr.same (g3.block g1 hr.lt (by first | exact hne1 | exact fun e => hne1 e.symm)), hk.trans (grown_kept g3 hB.kl hB.kv)⟩
      rw [putsW_step]
      exact hB3
    rintro e w3 ⟨rfl, hB, _, hk⟩
    refine ⟨_, rfl, ?_⟩
    (refine LL.nilS ?_; refine CC.seq ?_; refine CC.region ?_; refine LL.val (R.move rfl rfl) rfl rfl rfl ?_; refine LL.val (R.assign rfl rfl) rfl rfl rfl ?_; refine LL.nilS ?_; refine CC.ret ?_)
    refine EE.ret _ rfl rfl ?_
    exact ⟨rfl, hB, hk⟩
  · rw [if_neg hs]
    (refine LL.val (R.assign rfl rfl) rfl rfl rfl ?_; refine LL.nilS ?_; refine CC.seq ?_; refine CC.seq ?_; refine CC.region ?_; refine LL.val (R.move rfl rfl) rfl rfl rfl ?_; refine LL.val (R.eqF rfl rfl rfl (by omega)) rfl rfl rfl ?_; refine LL.nilS ?_; refine CC.no rfl ?_; refine CC.skip ?_; refine EE.thenN ?_; refine CC.seq ?_; refine CC.region ?_; refine LL.val (R.move rfl rfl) rfl rfl rfl ?_; refine LL.val (R.assign rfl rfl) rfl rfl rfl ?_; refine LL.nilS ?_; refine CC.ret ?_)
    refine EE.ret _ rfl rfl ?_
    exact ⟨rfl, h1, k1⟩

theorem mfree_none (p : Option Addr) (at_ many : Int) (w : World) (h : ∀ w2, Below w.heap.size w w2 → Calls Try.prog 29 #[.pointer p] w2 fun e w' => e = .returned (.bool true) ∧ w2 = w') : Calls Try.prog 22 #[.pointer p, .int .i64 at_, .int .i64 many] w fun e w' => e = .returned (.int .i64 1) ∧ Below w.heap.size w w' := by
  refine X.fn Try.func22 rfl (n := 19) rfl rfl ?_
  (refine CC.seq ?_; refine CC.region ?_)
  refine LL.box [.pointer p] rfl rfl rfl rfl rfl ?_
  intro w1 g1 e1 r1 z1 b1
  (refine LL.val (R.assign rfl rfl) rfl rfl rfl ?_; refine LL.nilS ?_; refine CC.seq ?_; refine CC.region ?_; refine LL.val (R.load rfl rfl (I.ld1 rfl (RowL.cell (by assumption) rfl))) rfl rfl rfl ?_; refine LL.val (R.move rfl rfl) rfl rfl rfl ?_; refine LL.val (R.move rfl rfl) rfl rfl rfl ?_)
  refine LL.call (R.call rfl rfl rfl) rfl rfl rfl (span_none p at_ many w1 (h w1 b1)) ?_
  rintro e w2 ⟨rfl, rfl⟩
  refine ⟨_, rfl, ?_⟩
  (refine LL.val (R.assign rfl rfl) rfl rfl rfl ?_; refine LL.nilS ?_; refine CC.seq ?_; refine CC.seq ?_; refine CC.region ?_; refine LL.val (R.move rfl rfl) rfl rfl rfl ?_; refine LL.val (R.eqF rfl rfl rfl (by omega)) rfl rfl rfl ?_; refine LL.nilS ?_; refine CC.no rfl ?_; refine CC.skip ?_; refine EE.thenN ?_; refine CC.seq ?_; refine CC.region ?_; refine LL.val (R.move rfl rfl) rfl rfl rfl ?_; refine LL.val (R.assign rfl rfl) rfl rfl rfl ?_; refine LL.nilS ?_; refine CC.ret ?_)
  refine EE.ret _ rfl rfl ?_
  exact ⟨rfl, b1⟩
set_option maxRecDepth 100000 in
set_option maxHeartbeats 2000000 in
theorem mfree_made {K : Nat → Prop} {g bits : Nat} {v : Value} {ws : List Nat} (at_ many : Int) (w : World) (h : BmAt w K g v bits ws) (ha : -9223372036854775808 ≤ at_ ∧ at_ ≤ 9223372036854775807) :
    Calls Try.prog 22 #[.pointer (some ⟨g, 0, none⟩), .int .i64 at_, .int .i64 many] w fun e w' => e = .returned (.int .i64 (spanP bits at_ many : Int)) ∧ BmAt w' K g v bits (runP ws bits at_ many false) ∧ Kept K w w' := by
  have hlo := h.lo
  have hhi := h.hi
  refine X.fn Try.func22 rfl (n := 19) rfl rfl ?_
  (refine CC.seq ?_; refine CC.region ?_)
  refine LL.box [.pointer (some ⟨g, 0, none⟩)] rfl rfl rfl rfl rfl ?_
  intro w1 g1 e1 r1 z1 b1
  have h1 := h.below b1
  have k1 : Kept K w w1 := bkept b1 h.kl
  (refine LL.val (R.assign rfl rfl) rfl rfl rfl ?_; refine LL.nilS ?_; refine CC.seq ?_; refine CC.region ?_; refine LL.val (R.load rfl rfl (I.ld1 rfl (RowL.cell (by assumption) rfl))) rfl rfl rfl ?_; refine LL.val (R.move rfl rfl) rfl rfl rfl ?_; refine LL.val (R.move rfl rfl) rfl rfl rfl ?_)
  refine LL.call (R.call rfl rfl rfl) rfl rfl rfl (span_made at_ many w1 h1 ha) ?_
  rintro e w2 ⟨rfl, rfl⟩
  refine ⟨_, rfl, ?_⟩
  unfold runP
  by_cases hs : spanP bits at_ many = 0
  · rw [if_pos hs, hs]
    have hin : 0 ≤ at_ ∧ at_ ≤ bits ∧ 0 ≤ many ∧ many ≤ (bits : Int) - at_ := by
      unfold spanP at hs
      split at hs
      · cases hs
      · omega
    obtain ⟨a, rfl⟩ : ∃ a : Nat, at_ = a := ⟨at_.toNat, by omega⟩
    obtain ⟨m, rfl⟩ : ∃ m : Nat, many = m := ⟨many.toNat, by omega⟩
    have hne1 : v.ownBlock ≠ some g1 := by
      rcases h.list.above with h0 | ⟨b, h0, _, h2⟩
      · rw [h0]; simp
      · rw [h0]; intro e; cases e; omega
    (refine LL.val (R.assign rfl rfl) rfl rfl rfl ?_; refine LL.nilS ?_; refine CC.seq ?_; refine CC.seq ?_; refine CC.region ?_; refine LL.val (R.move rfl rfl) rfl rfl rfl ?_; refine LL.val (R.eqT rfl rfl rfl (by omega)) rfl rfl rfl ?_; refine LL.nilS ?_; refine CC.yes rfl ?_; refine CC.region ?_; refine LL.val (R.move rfl rfl) rfl rfl rfl ?_; refine LL.val (R.move rfl rfl) rfl rfl rfl ?_; refine LL.val (R.func rfl rfl rfl) rfl rfl rfl ?_)
    refine LL.call (R.call rfl rfl rfl) rfl rfl rfl (each_any (I := fun i w' => BmAt w' K g v bits (putsW ws a i false) ∧ RowL w' g1 24 [.pointer (some ⟨g, 0, none⟩)] ∧ Kept K w w') 43 #[.pointer (some ⟨g1, 0, none⟩)] a m w1 rfl (by omega) (by omega) (fun i w' hi hI => ?_) ⟨h1, r1, k1⟩) ?_
    · obtain ⟨hB, hr, hk⟩ := hI
      refine (free1_any (a + i) w' hB (hr.cell rfl) (by omega)).mono ?_
      rintro e w3 ⟨rfl, hB3, g3⟩
      refine ⟨rfl, ?_, hr.same (g3.block g1 hr.lt (by first | exact hne1 | exact fun e => hne1 e.symm)), hk.trans (grown_kept g3 hB.kl hB.kv)⟩
      rw [putsW_step]
      exact hB3
    rintro e w3 ⟨rfl, hB, _, hk⟩
    refine ⟨_, rfl, ?_⟩
    (refine LL.nilS ?_; refine CC.seq ?_; refine CC.region ?_; refine LL.val (R.move rfl rfl) rfl rfl rfl ?_; refine LL.val (R.assign rfl rfl) rfl rfl rfl ?_; refine LL.nilS ?_; refine CC.ret ?_)
    refine EE.ret _ rfl rfl ?_
    exact ⟨rfl, hB, hk⟩
  · rw [if_neg hs]
    (refine LL.val (R.assign rfl rfl) rfl rfl rfl ?_; refine LL.nilS ?_; refine CC.seq ?_; refine CC.seq ?_; refine CC.region ?_; refine LL.val (R.move rfl rfl) rfl rfl rfl ?_; refine LL.val (R.eqF rfl rfl rfl (by omega)) rfl rfl rfl ?_; refine LL.nilS ?_; refine CC.no rfl ?_; refine CC.skip ?_; refine EE.thenN ?_; refine CC.seq ?_; refine CC.region ?_; refine LL.val (R.move rfl rfl) rfl rfl rfl ?_; refine LL.val (R.assign rfl rfl) rfl rfl rfl ?_; refine LL.nilS ?_; refine CC.ret ?_)
    refine EE.ret _ rfl rfl ?_
    exact ⟨rfl, h1, k1⟩
end Go.Proofs.Ytojoaplbgcdapaa
