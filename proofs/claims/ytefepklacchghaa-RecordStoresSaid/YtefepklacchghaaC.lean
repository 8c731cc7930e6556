/- Contracts of layer 1: the document's Bytes, Word, Lay, Same. -/
import Derived.Test.YtefepklacchghaaB
namespace Go.Proofs.Ytefepklacchghaa
set_option linter.unusedVariables false
set_option linter.unusedSimpArgs false
open Go.RowKit

theorem ints_app (k : IntKind) (l r : List Nat) : ints k (l ++ r) = ints k l ++ ints k r := by simp

theorem rbytes_step {w : World} {n0 e : Nat} {v : Value} {n : Nat} {xs : List Nat} {x k : Nat} (h : w.ownsRow n0 e 1 v (n + 1) (ints .u8 (xs ++ byteL x k) ++ [.int .u8 (((x / 256 ^ k : Nat) : Int) % 256)])) :
    w.ownsRow n0 e 1 v (n + 1) (ints .u8 (xs ++ byteL x (k + 1))) := by
  rw [byteL_succ]
  simpa using h

set_option maxHeartbeats 400000 in
theorem rbytes_any (v : Value) (ws : List Nat) (w : World) (hv : Reads w v (ints .u64 ws)) (hw : ∀ x ∈ ws, x < 18446744073709551616) (hlen : ws.length ≤ 1048576) :
    Calls Try.prog 26 #[v] w fun e w' => ∃ v', e = .returned v' ∧ w'.ownsRow w.heap.size 5 1 v' (8 * ws.length) (ints .u8 (bytesL ws)) ∧ Below w.heap.size w w' := by
  obtain ⟨a, cap, rfl, hcap, hcells⟩ := hv.ints
  go_enter Try.func26, Try.ntmps26
  go_wp2
  go_loopw [3, 4] (fun v i wr => ∃ k : Nat, k ≤ ws.length ∧ i = .int .i64 k ∧ wr.ownsRow w.heap.size 5 1 v (8 * k) (ints .u8 (bytesL (ws.take k))) ∧ Below w.heap.size w wr) (fun _ i _ => ws.length - (intOf i).toNat)
  case atStart => exact ⟨0, by omega, rfl, World.ownsRow_nil _ _ _ _, Below.refl _ _⟩
  case round =>
    obtain ⟨k, hk, rfl, hr, hbl⟩ := hrel
    by_cases hlt : k < ws.length
    · obtain ⟨b, off, rfl, hbs, hc⟩ := hcells (by omega)
      have hck : wr.cell? ⟨b, off + k, none⟩ = some (.int .u64 ((ws[k]?.getD 0 : Nat) : Int)) := (hbl.cell (p := ⟨b, off + k, none⟩) hbs).trans (hc k hlt)
      have hsz := hbl.size
      have hts := Lib.hid (take_snoc ws 0 k hlt)
      have hx : ws[k]?.getD 0 < 18446744073709551616 := by simp [hlt]; exact hw _ (List.getElem_mem hlt)
      obtain ⟨x, hxe⟩ : ∃ x, ws[k]?.getD 0 = x := ⟨_, rfl⟩
      rw [hxe] at hck hx hts
      clear hc hcells hxe
      go_wp2
      obtain ⟨wo, hwo⟩ : ∃ wo : World, wo = wr := ⟨_, rfl⟩
      rw [← hwo] at hr hbl hck hsz ⊢
      clear hwo
      go_loopw [3, 5, 6] (fun v y j wr => ∃ i q m : Nat, i ≤ 8 ∧ j = .int .i64 i ∧ y = .int .u64 q ∧ q = x / 256 ^ i ∧ m = 8 * k + i ∧ wr.ownsRow w.heap.size 5 1 v m (ints .u8 (bytesL (ws.take k) ++ byteL x i)) ∧ Below w.heap.size w wr) (fun _ _ j _ => 8 - (intOf j).toNat)
      case atStart => exact ⟨0, x, 8 * k, by omega, rfl, rfl, by simp, rfl, by simpa [byteL] using hr, hbl⟩
      case round =>
        obtain ⟨i, q, m, hi, rfl, rfl, hq, hm, hri, hbi⟩ := hrel
        have hq2 : q < 18446744073709551616 := by rw [hq]; exact Nat.lt_of_le_of_lt (Nat.div_le_self _ _) hx
        have hmb : m + 1 ≤ 140737488355328 := by omega
        have hmm := hm
        have HQ := Lib.hid hq
        have HM := Lib.hid hm
        clear hq hm hmm
        have hsi := hbi.size
        by_cases hil : i < 8
        · go_wp2_with (first | (at_builtin; go_must (refine list_app El8 rfl rfl (by first | (simp [Act.eval]; done) | (simp [Act.eval]; exact ⟨rfl, rfl⟩) | (simp [Act.eval]; rfl)) (by first | (simp [Act.eval]; done) | (simp [Act.eval]; exact ⟨rfl, rfl⟩) | (simp [Act.eval]; rfl)) (hri.alloc _) (by first | exact cell_new _ _ _ | exact cell_new_d _ _ _) rfl (by first | omega | (simp; omega)) (by simp [maxLen]; omega) (by first | omega | (simp; omega)) ?_); intro g cp w1 hown hgrow _ _; have hb1 := below_app hri (by omega) hgrow; clear hgrow))
          go_roundw
          case rel => exact ⟨i + 1, q / 256, m + 1, by omega, by go_num, by first | rfl | simp, by rw [HQ.out, Nat.div_div_eq_div_mul, Nat.pow_succ], by have := HM.out; omega, rbytes_step (by rw [← HQ.out, ints_app]; simpa using hown), hbi.trans hb1⟩
          case measure => simp [intOf]; omega
        · obtain rfl : i = 8 := by omega
          go_wp2
          go_roundw
          case rel => exact ⟨k + 1, by omega, by go_num, by rw [hts.out, bytesL_snoc]; have := HM.out; subst this; exact hri, hbi⟩
          case measure => simp [intOf]; omega
    · obtain rfl : k = ws.length := by omega
      go_wp2
      go_ret
      exact ⟨_, rfl, by simpa using hr, hbl⟩
theorem take_eq_succ {α : Type} (xs ys : List α) (k : Nat) (h : xs.take k = ys.take k) (hx : k < xs.length) (hy : k < ys.length) (he : xs[k] = ys[k]) : xs.take (k + 1) = ys.take (k + 1) := by
  rw [List.take_succ_eq_append_getElem hx, List.take_succ_eq_append_getElem hy, h, he]

set_option maxHeartbeats 400000 in
theorem same_any (v1 v2 : Value) (xs ys : List Nat) (w : World) (h1 : Reads w v1 (ints .u64 xs)) (h2 : Reads w v2 (ints .u64 ys)) (hx : xs.length ≤ 1048576) (hy : ys.length ≤ 1048576) :
    Calls Try.prog 12 #[v1, v2] w fun e w' => e = .returned (.bool (decide (xs = ys))) ∧ ∃ n, w' = w.drewN n := by
  obtain ⟨a, cap, rfl, hcap, hcells⟩ := h1.ints
  obtain ⟨b, cap2, rfl, hcap2, hcells2⟩ := h2.ints
  clear h1 h2
  by_cases hl : xs.length = ys.length
  · have hbe : (xs.length == ys.length) = true := by simp [hl]
    have HL := Lib.hid hl
    have hle : ys.length ≤ xs.length := by omega
    have hle2 : xs.length ≤ ys.length := by omega
    have hbi : (((xs.length : Nat) : Int) == ((ys.length : Nat) : Int)) = true := by simp; omega
    clear hl hbe
    go_enter Try.func12, Try.ntmps12
    go_wp2
    go_loopw [5] (fun i wr => ∃ k n : Nat, k ≤ xs.length ∧ i = .int .i64 k ∧ xs.take k = ys.take k ∧ wr = w.drewN n) (fun i _ => xs.length - (intOf i).toNat)
    case atStart => exact ⟨0, 0, by omega, rfl, rfl, rfl⟩
    case round =>
      obtain ⟨k, n, hk, rfl, ht, rfl⟩ := hrel
      have HT := Lib.hid ht
      clear ht
      by_cases hlt : k < xs.length
      · obtain ⟨p, o, rfl, hps, hc⟩ := hcells (by omega)
        obtain ⟨p2, o2, rfl, hps2, hc2⟩ := hcells2 (by omega)
        have hck := hc k hlt
        have hck2 := hc2 k (by omega)
        have hk2 : k < ys.length := by omega
        clear hc hc2 hcells hcells2
        simp only [hlt, hk2, getElem?_pos, Option.getD_some] at hck hck2
        obtain ⟨c, hce⟩ : ∃ c, xs[k] = c := ⟨_, rfl⟩
        obtain ⟨d, hde⟩ : ∃ d, ys[k] = d := ⟨_, rfl⟩
        rw [hce] at hck
        rw [hde] at hck2
        have i1 : (0 : Int) ≤ (k : Int) := by omega
        have i2 : (k : Int) < (xs.length : Int) := by omega
        have i3 : (k : Int) < (ys.length : Int) := by omega
        have Hc := Lib.hid hce
        have Hd := Lib.hid hde
        clear hce hde
        by_cases hcd : c = d
        · subst hcd
          go_wp2
          go_quiet (fail)
          go_wp2
          go_roundw
          case rel => exact ⟨k + 1, _, by omega, by go_num, take_eq_succ xs ys k HT.out hlt hk2 (by rw [Hc.out, Hd.out]), rfl⟩
          case measure => simp [intOf]; omega
        · have hne : ((c : Int) == (d : Int)) = false := by simp; omega
          go_wp2
          go_quiet (fail)
          go_wp2
          go_ret
          refine ⟨ret1 (congrArg Value.bool ?_), n + nq, by simp only [World.drewN_drewN]⟩
          symm
          rw [decide_eq_false_iff_not]
          intro e
          subst e
          exact hcd (by rw [← Hc.out, ← Hd.out])
      · obtain rfl : k = xs.length := by omega
        go_wp2
        go_ret
        refine ⟨ret1 (congrArg Value.bool ?_), _, rfl⟩
        symm
        rw [decide_eq_true_eq]
        have e := HT.out
        rw [List.take_length, HL.out, List.take_length] at e
        exact e
  · have hbi : (((xs.length : Nat) : Int) == ((ys.length : Nat) : Int)) = false := by simp; omega
    have HL := Lib.hid hl
    clear hl
    go_enter Try.func12, Try.ntmps12
    go_wp2
    go_ret
    refine ⟨ret1 (congrArg Value.bool ?_), 0, rfl⟩
    symm
    rw [decide_eq_false_iff_not]
    intro e
    exact HL.out (by rw [e])
end Go.Proofs.Ytefepklacchghaa
