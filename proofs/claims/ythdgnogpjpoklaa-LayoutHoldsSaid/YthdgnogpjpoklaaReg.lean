/- The program's register: a bit that falls out, a byte taken in, the sum; More. -/
import Derived.Test.YthdgnogpjpoklaaCrc
import Derived.Test.YthdgnogpjpoklaaPipe
namespace Go.Proofs.Ythdgnogpjpoklaa
set_option linter.unusedVariables false
set_option linter.unusedSimpArgs false
open Go.RowKit Go.Shelf

theorem set_grown {W Y : World} {B : Nat} (h : W.grownBy Y (some B)) (u : Value) : W.grownBy (Y.setCell ⟨B, 0, none⟩ u) (some B) := grown_trans h (grownBy_setCell' _ _ _)
theorem set_cell {W : World} {B : Nat} {v : Value} (h : W.cell? ⟨B, 0, none⟩ = some v) (u : Value) : (W.setCell ⟨B, 0, none⟩ u).cell? ⟨B, 0, none⟩ = some u := World.cell?_setCell_same' _ _ _ (by rw [h]; rfl)
theorem set_other {W : World} {B : Nat} {a : Addr} {v : Value} (h : W.cell? a = some v) (hne : a.block ≠ B) (u : Value) : (W.setCell ⟨B, 0, none⟩ u).cell? a = some v :=
  grown_cell h (grownBy_setCell' _ _ _) (by simpa using hne)

theorem fell_any (R B s : Nat) (w : World) (hs : s < 18446744073709551616) (hR : w.cell? ⟨R, 0, none⟩ = some (.pointer (some ⟨B, 0, none⟩))) (hB : w.cell? ⟨B, 0, none⟩ = some (.int .u64 s)) (hf : w.frozen? ⟨B, 0, none⟩ = false) :
    Calls Try.prog 59 #[.pointer (some ⟨R, 0, none⟩)] w fun e w' => e = .returned (.bool (s % 2 == 1)) ∧ w' = w.setCell ⟨B, 0, none⟩ (.int .u64 ((s / 2 : Nat) : Int)) := by
  have hb : bits .and .u64 (s : Int) 1 = ((s % 2 : Nat) : Int) := (u64_and_nat s 1 hs (by decide)).trans (by rw [Nat.and_one_is_mod])
  obtain ⟨b, hbe⟩ : ∃ b, s % 2 = b := ⟨_, rfl⟩
  rw [hbe] at hb ⊢
  have hB2 := hB
  go_enter Try.func59, Try.ntmps59
  go_wp2
  go_ret
  refine ⟨congrArg Ending.returned (congrArg Value.bool ?_), by simp⟩
  have : b < 2 := by omega
  rcases (by omega : b = 0 ∨ b = 1) with rfl | rfl <;> rfl

/-- A byte taken in: the register's box has the next number; all else lies as it lay. -/
theorem take_any (B s c : Nat) (w : World) (hs : s < 18446744073709551616) (hc : c < 256) (hB : w.cell? ⟨B, 0, none⟩ = some (.int .u64 s)) (hf : w.frozen? ⟨B, 0, none⟩ = false) :
    Calls Try.prog 56 #[.pointer (some ⟨B, 0, none⟩), .int .u8 c] w fun e w' => (∃ v, e = .returned v) ∧ w.grownBy w' (some B) ∧ w'.cell? ⟨B, 0, none⟩ = some (.int .u64 (crcByte s c)) ∧ w'.frozen? ⟨B, 0, none⟩ = false := by
  have hlt : B < w.heap.size := by
    obtain ⟨o, ho, _⟩ := cells_of_cell hB
    exact (Array.getElem?_eq_some_iff.1 ho).1
  have hx := u64_xor_nat s c hs (by omega)
  have hzl : s ^^^ c < 18446744073709551616 := xor_lt hs (by omega)
  obtain ⟨z, hz⟩ : ∃ z, s ^^^ c = z := ⟨_, rfl⟩
  have HZ : Hid (crcByte s c = crcN 8 z) := Lib.hid (by rw [← hz]; rfl)
  rw [hz] at hx hzl
  clear hz
  obtain ⟨W0, hW0⟩ : ∃ W0, w.alloc (.cells #[.pointer (some ⟨B, 0, none⟩)] 96) = W0 := ⟨_, rfl⟩
  have hbx := box_new w (.pointer (some ⟨B, 0, none⟩)) 96
  have hg0 : w.grownBy W0 (some B) := by rw [← hW0]; exact World.grownBy_alloc _ _ _
  have hB0 : W0.cell? ⟨B, 0, none⟩ = some (.int .u64 s) ∧ W0.frozen? ⟨B, 0, none⟩ = false := by rw [← hW0]; exact box_alloc ⟨hB, hf⟩ _
  rw [hW0] at hbx
  obtain ⟨R, hR⟩ : ∃ R, w.heap.size = R := ⟨_, rfl⟩
  rw [hR] at hbx
  have hRB : R ≠ B := by omega
  have hbx1 := hbx.1
  go_enter Try.func56, Try.ntmps56
  rw [← hR] at hbx1
  go_wp2
  go_loopw [13] (fun i wr => ∃ k q : Nat, k ≤ 8 ∧ i = .int .i64 k ∧ q = crcN k z ∧ q < 18446744073709551616 ∧ w.grownBy wr (some B) ∧ wr.cell? ⟨B, 0, none⟩ = some (.int .u64 q) ∧ wr.frozen? ⟨B, 0, none⟩ = false ∧ wr.cell? ⟨R, 0, none⟩ = some (.pointer (some ⟨B, 0, none⟩))) (fun i _ => 8 - (intOf i).toNat)
  case atStart => exact ⟨0, z, by omega, rfl, rfl, hzl, set_grown hg0 _, set_cell hB0.1 _, by rw [World.frozen?_setCell]; exact hB0.2, set_other hbx.1 (by simpa using hRB) _⟩
  case round =>
    obtain ⟨k, q, hk, rfl, hq, hql, hgr, hqc, hqf, hrc⟩ := hrel
    by_cases hk8 : k < 8
    · have hst : crcN (k + 1) z = crcBit q := by rw [hq]; rfl
      have hbl := crcBit_lt hql
      have HT := Lib.hid hst
      clear hst hq hbx hbx1 hB0 hg0 hW0 hR
      obtain ⟨y, hy⟩ : ∃ y, q / 2 = y := ⟨_, rfl⟩
      have hyl : y < 18446744073709551616 := by omega
      have hx2 : bits .xor .u64 (y : Int) 14514072000185962306 = ((y ^^^ 14514072000185962306 : Nat) : Int) := u64_xor_nat y 14514072000185962306 hyl (by decide)
      have hfl := fell_any R B q wr hql hrc hqc hqf
      rw [hy] at hfl
      have g1 := set_grown hgr (.int .u64 y)
      have c1 := set_cell hqc (.int .u64 y)
      have f1 : (wr.setCell ⟨B, 0, none⟩ (.int .u64 y)).frozen? ⟨B, 0, none⟩ = false := by rw [World.frozen?_setCell]; exact hqf
      have r1 := set_other hrc (by simpa using hRB) (.int .u64 y)
      obtain ⟨wr1, hwr1⟩ : ∃ wr1, wr.setCell ⟨B, 0, none⟩ (.int .u64 y) = wr1 := ⟨_, rfl⟩
      rw [hwr1] at g1 c1 f1 r1 hfl
      clear hwr1
      by_cases h1 : q % 2 = 1
      · have hcb : crcBit q = y ^^^ 14514072000185962306 := by unfold crcBit; rw [if_pos h1, hy]
        have HC := Lib.hid hcb
        rw [show (q % 2 == 1) = true by simp [h1]] at hfl
        obtain ⟨q2, hq2⟩ : ∃ q2, y ^^^ 14514072000185962306 = q2 := ⟨_, rfl⟩
        rw [hq2] at hx2
        have HQ := Lib.hid hq2
        clear hcb hq2 hy h1
        go_wp2_with (go_at_call 59; refine hfl.mono ?_; rintro e w' ⟨rfl, rfl⟩)
        go_roundw
        case rel => exact ⟨k + 1, q2, by omega, by go_num, by rw [HT.out, HC.out, HQ.out], by have := HQ.out; have := HC.out; omega, set_grown g1 _, set_cell c1 _, by rw [World.frozen?_setCell]; exact f1, set_other r1 (by simpa using hRB) _⟩
        case measure => simp [intOf]; omega
      · have hcb : crcBit q = y := by unfold crcBit; rw [if_neg h1, hy]
        have HC := Lib.hid hcb
        rw [show (q % 2 == 1) = false by simp [h1]] at hfl
        clear hcb hy h1
        go_wp2_with (go_at_call 59; refine hfl.mono ?_; rintro e w' ⟨rfl, rfl⟩)
        go_roundw
        case rel => exact ⟨k + 1, y, by omega, by go_num, by rw [HT.out, HC.out], hyl, g1, c1, f1, r1⟩
        case measure => simp [intOf]; omega
    · obtain rfl : k = 8 := by omega
      have HQ := Lib.hid hq
      clear hq
      go_wp2
      go_end0
      exact ⟨⟨_, rfl⟩, hgr, by rw [HZ.out, ← HQ.out]; exact hqc, hqf⟩

theorem sum_any (B s : Nat) (w : World) (hs : s < 18446744073709551616) (hB : w.cell? ⟨B, 0, none⟩ = some (.int .u64 s)) :
    Calls Try.prog 57 #[.pointer (some ⟨B, 0, none⟩)] w fun e w' => e = .returned (.int .u64 (notU s)) ∧ w = w' := by
  have hn := not_u64 hs
  go_enter Try.func57, Try.ntmps57
  go_wp2
  go_ret
  exact ⟨rfl, rfl⟩

/-- The bytes of a slice, one by one. -/
theorem bytes_gives (b n cap : Nat) (a : Option Addr) (bs : List Nat) (w : World) (hb : b < w.heap.size) (hc : w.cell? ⟨b, 0, none⟩ = some (.slice a n cap)) (hr : Reads w (.slice a n cap) (ints .u8 bs)) (hn : bs.length = n) (hn63 : n ≤ 9223372036854775807) :
    Gives Try.prog 58 #[.pointer (some ⟨b, 0, none⟩)] (fun c : Nat => #[.int .u8 (c : Int)]) (fun k => 0 < n ∧ ∃ x, a = some x ∧ k = x.block) (fun xs => xs = bs) w := by
  intro l J Jx W hW hJ hJx hY h0
  have hcells : 0 < n → ∃ b off, a = some ⟨b, off, none⟩ ∧ b < w.heap.size ∧ ∀ j, j < n → w.cell? ⟨b, off + j, none⟩ = some (.int .u8 ((bs[j]?.getD 0 : Nat) : Int)) := by
    obtain ⟨a', cap', e, _, h⟩ := hr.intsN hn
    cases e
    exact h
  have hcW : W.cell? ⟨b, 0, none⟩ = some (.slice a n cap) := (hW.cell (p := ⟨b, 0, none⟩) hb).trans hc
  refine (callsIn_wide (n := 3)).1 (callsIn_of_wp Try.func58 rfl trivial ?_ rfl)
  simp only [Try.ntmps58, List.size_toArray, List.length_cons, List.length_nil, Nat.reduceAdd, Nat.reduceSub, Array.replicate_succ, Array.replicate_zero, List.push_toArray, List.append_toArray, List.nil_append, List.cons_append, List.append_nil]
  gi_wp2
  gi_loopw [7] (fun v wr => ∃ k : Nat, v = .int .i64 (k : Int) ∧ k ≤ n ∧ J W.heap.size (bs.take k) wr ∧ Keeps (fun k => 0 < n ∧ ∃ x, a = some x ∧ k = x.block) W wr) (fun v _ => n - (intOf v).toNat)
  case atStart => exact ⟨0, rfl, by omega, h0 _, .refl _ _⟩
  case round =>
    obtain ⟨k, rfl, hk, hJk, hkp⟩ := hrel
    by_cases hlt : k < n
    · obtain ⟨b2, off, rfl, hbs, hcl⟩ := hcells (by omega)
      have hck : wr.cell? ⟨b2, off + k, none⟩ = some (.int .u8 ((bs[k]?.getD 0 : Nat) : Int)) := (hkp.cell (p := ⟨b2, off + k, none⟩) ⟨by omega, _, rfl, rfl⟩).trans ((hW.cell (p := ⟨b2, off + k, none⟩) hbs).trans (hcl k hlt))
      obtain ⟨c, hce⟩ : ∃ c, bs[k]?.getD 0 = c := ⟨_, rfl⟩
      rw [hce] at hck
      have hts : bs.take k ++ [c] = bs.take (k + 1) := by
        rw [List.take_succ_eq_append_getElem (by omega)]
        congr 2
        rw [← hce, List.getElem?_eq_getElem (by omega)]; rfl
      have hpart : Part (fun xs => xs = bs) (bs.take k ++ [c]) := ⟨bs, rfl, by rw [hts]; exact List.take_prefix _ _⟩
      have h1 : ((k : Int) < (n : Int)) := by omega
      have hw1 : IntKind.i64.wrap ((k : Int) + 1) = ((k + 1 : Nat) : Int) := by rw [IntWalk.i64_in _ (by omega)]; omega
      obtain ⟨fn, tmps, assign, body, hy, hR⟩ := hY _ _ c wr (Nat.le_refl _) hJk hpart
      have HTS := Lib.hid hts
      clear hts hce hcells hcl
      gi_wp2
      refine (round_any hR).mono ?_
      rintro e W3 ⟨hs3, (⟨rfl, hJ3, hb3⟩ | ⟨rfl, hJx3⟩)⟩
      · gi_wp2
        go_roundw
        case rel => exact ⟨k + 1, by first | rfl | simp only [hw1] | simp, by omega, by rw [← HTS.out]; exact hJ3, hkp.trans hb3⟩
        case measure => simp [intOf, hw1]; omega
      · gi_wp2
        refine bodyPost_ret (results_none rfl _ _ _) rfl ?_
        exact ⟨⟨_, rfl⟩, .inr ⟨_, _, hpart, hJx3⟩⟩
    · obtain rfl : k = n := by omega
      gi_wp2
      go_end0
      exact ⟨⟨_, rfl⟩, .inl ⟨_, _, rfl, by rw [← hn, List.take_length] at hJk; exact hJk⟩⟩
end Go.Proofs.Ythdgnogpjpoklaa
