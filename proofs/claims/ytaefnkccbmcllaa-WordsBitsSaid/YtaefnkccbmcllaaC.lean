/- Contracts of layer 1: the document's Bytes, Word, Lay, Same. -/
import Derived.Test.YtaefnkccbmcllaaB
namespace Go.Proofs.Ytaefnkccbmcllaa
open Go.RowKit

theorem ints_app (k : IntKind) (l r : List Nat) : ints k (l ++ r) = ints k l ++ ints k r := by simp

theorem rbytes_step {w : World} {n0 e : Nat} {v : Value} {n : Nat} {xs : List Nat} {x k : Nat} (h : w.ownsRow n0 e 1 v (n + 1) (ints .u8 (xs ++ byteL x k) ++ [.int .u8 (((x / 256 ^ k : Nat) : Int) % 256)])) :
    w.ownsRow n0 e 1 v (n + 1) (ints .u8 (xs ++ byteL x (k + 1))) := by
  rw [byteL_succ]
  simpa using h

set_option maxHeartbeats 400000 in
theorem rbytes_any (v : Value) (ws : List Nat) (w : World) (hv : Reads w v (ints .u64 ws)) (hw : ∀ x ∈ ws, x < 18446744073709551616) (hlen : ws.length ≤ 1048576) :
    Calls Try.prog 13 #[v] w fun e w' => ∃ v', e = .returned v' ∧ w'.ownsRow w.heap.size 5 1 v' (8 * ws.length) (ints .u8 (bytesL ws)) ∧ Below w.heap.size w w' := by
  obtain ⟨a, cap, rfl, hcap, hcells⟩ := hv.ints
  go_enter Try.func13, Try.ntmps13
  go_wp2
  go_loopw [3, 4] (fun v i wr => ∃ k : Nat, k ≤ ws.length ∧ i = .int .i64 k ∧ wr.ownsRow w.heap.size 5 1 v (8 * k) (ints .u8 (bytesL (ws.take k))) ∧ Below w.heap.size w wr) (fun _ i _ => ws.length - (intOf i).toNat)
  case atStart => exact ⟨0, by omega, rfl, World.ownsRow_nil _ _ _ _, Below.refl _ _⟩
  case round =>
    obtain ⟨k, hk, rfl, hr, hbl⟩ := hrel
    by_cases hlt : k < ws.length
    · obtain ⟨b, off, rfl, hbs, hc⟩ := hcells (by omega)
      have hck : wr.cell? ⟨b, off + k, none⟩ = some (.int .u64 ((ws[k]?.getD 0 : Nat) : Int)) := (hbl.cell (p := ⟨b, off + k, none⟩) hbs).trans (hc k hlt)
      have hsz := hbl.size
      have hts := Lib.hid (take_snoc ws 0 k hlt)
      have hx : ws[k]?.getD 0 < 18446744073709551616 := by simp [hlt]; exact hw _ (List.getElem_mem hlt)
      obtain ⟨x, hxe⟩ : ∃ x, ws[k]?.getD 0 = x := ⟨_, rfl⟩
      rw [hxe] at hck hx hts
      clear hc hcells hxe
      go_wp2
      obtain ⟨wo, hwo⟩ : ∃ wo : World, wo = wr := ⟨_, rfl⟩
      rw [← hwo] at hr hbl hck hsz ⊢
      clear hwo
      go_loopw [3, 5, 6] (fun v y j wr => ∃ i q m : Nat, i ≤ 8 ∧ j = .int .i64 i ∧ y = .int .u64 q ∧ q = x / 256 ^ i ∧ m = 8 * k + i ∧ wr.ownsRow w.heap.size 5 1 v m (ints .u8 (bytesL (ws.take k) ++ byteL x i)) ∧ Below w.heap.size w wr) (fun _ _ j _ => 8 - (intOf j).toNat)
      case atStart => exact ⟨0, x, 8 * k, by omega, rfl, rfl, by simp, rfl, by simpa [byteL] using hr, hbl⟩
      case round =>
        obtain ⟨i, q, m, hi, rfl, rfl, hq, hm, hri, hbi⟩ := hrel
        have hq2 : q < 18446744073709551616 := by rw [hq]; exact Nat.lt_of_le_of_lt (Nat.div_le_self _ _) hx
        have hmb : m + 1 ≤ 140737488355328 := by omega
        have hmm := hm
        have HQ := Lib.hid hq
        have HM := Lib.hid hm
        clear hq hm hmm
        have hsi := hbi.size
        by_cases hil : i < 8
        · go_wp2_with (first | (at_builtin; go_must (refine list_app El8 rfl rfl (by first | (simp [Act.eval]; done) | (simp [Act.eval]; exact ⟨rfl, rfl⟩) | (simp [Act.eval]; rfl)) (by first | (simp [Act.eval]; done) | (simp [Act.eval]; exact ⟨rfl, rfl⟩) | (simp [Act.eval]; rfl)) (hri.alloc _) (by first | exact cell_new _ _ _ | exact cell_new_d _ _ _) rfl (by first | omega | (simp; omega)) (by simp [maxLen]; omega) (by first | omega | (simp; omega)) ?_); intro g cp w1 hown hgrow _ _; have hb1 := below_app hri (by omega) hgrow; clear hgrow))
          go_roundw
          case rel => exact ⟨i + 1, q / 256, m + 1, by omega, by go_num, by first | rfl | simp, by rw [HQ.out, Nat.div_div_eq_div_mul, Nat.pow_succ], by have := HM.out; omega, rbytes_step (by rw [← HQ.out, ints_app]; simpa using hown), hbi.trans hb1⟩
          case measure => simp [intOf]; omega
        · obtain rfl : i = 8 := by omega
          go_wp2
          go_roundw
          case rel => exact ⟨k + 1, by omega, by go_num, by rw [hts.out, bytesL_snoc]; have := HM.out; subst this; exact hri, hbi⟩
          case measure => simp [intOf]; omega
    · obtain rfl : k = ws.length := by omega
      go_wp2
      go_ret
      exact ⟨_, rfl, by simpa using hr, hbl⟩
/-- The number that bytes make, the lowest first. -/
def valL : List Nat → Nat
  | [] => 0
  | b :: r => b + 256 * valL r

theorem valL_lt (l : List Nat) (h : ∀ x ∈ l, x < 256) : valL l < 256 ^ l.length := by
  induction l with
  | nil => simp [valL]
  | cons b r ih =>
    have h1 := h b (by simp)
    have h2 := ih (fun x hx => h x (by simp [hx]))
    simp only [valL, List.length_cons, Nat.pow_succ]
    omega

theorem valL_drop (l : List Nat) (j : Nat) (h : j < l.length) : valL (l.drop j) = l[j]?.getD 0 + 256 * valL (l.drop (j + 1)) := by
  rw [List.drop_eq_getElem_cons h]
  simp [valL, h]

set_option maxHeartbeats 400000 in
theorem word_any (v : Value) (bs : List Nat) (w : World) (hv : Reads w v (ints .u8 bs)) (hb : ∀ x ∈ bs, x < 256) (hlen : bs.length ≤ 1048576) :
    Calls Try.prog 30 #[v] w fun e w' => e = .returned (.int .u64 (valL (bs.take 8) : Nat)) ∧ w = w' := by
  obtain ⟨a, cap, rfl, hcap, hcells⟩ := hv.ints
  rcases Nat.lt_or_ge bs.length 8 with h8 | h8
  · have h8' : (bs.length : Int) < 8 := by omega
    go_enter Try.func30, Try.ntmps30
    go_wp2
    go_loop [3, 4] (fun y i => ∃ j q : Nat, j ≤ bs.length ∧ i = .int .i64 ((j : Int) - 1) ∧ y = .int .u64 q ∧ q = valL ((bs.take bs.length).drop j)) (fun _ i => (intOf i + 1).toNat)
    case atStart => exact ⟨bs.length, 0, by omega, by first | rfl | go_num, rfl, by simp [valL]⟩
    case round =>
      obtain ⟨j, q, hj, rfl, rfl, hq⟩ := hrel
      have HQ := Lib.hid hq
      clear hq
      by_cases hpos : 0 < j
      · obtain ⟨b, off, rfl, hbs, hc⟩ := hcells (by omega)
        obtain ⟨i, rfl⟩ : ∃ i, j = i + 1 := ⟨j - 1, by omega⟩
        have hil : i < bs.length := by omega
        have hck : w.cell? ⟨b, off + i, none⟩ = some (.int .u8 ((bs[i]?.getD 0 : Nat) : Int)) := hc i hil
        have hb8 : bs[i]?.getD 0 < 256 := by simp [hil]; exact hb _ (List.getElem_mem hil)
        have hql : q < 256 ^ 7 := by
          rw [HQ.out]
          refine Nat.lt_of_lt_of_le (valL_lt _ fun x hx => hb x (List.mem_of_mem_take (List.mem_of_mem_drop hx))) (Nat.pow_le_pow_right (by decide) ?_)
          simp; omega
        have hqn0 : bs[i]?.getD 0 + 256 * q = valL ((bs.take bs.length).drop i) := by
          rw [valL_drop _ i (by simp; omega), ← HQ.out]
          simp [show i < bs.length by omega]
        obtain ⟨c, hce⟩ : ∃ c, bs[i]?.getD 0 = c := ⟨_, rfl⟩
        rw [hce] at hck hb8 hqn0
        have hqn := Lib.hid hqn0
        clear hc hcells hce hqn0
        go_wp2
        go_round
        case rel => exact ⟨i, c + 256 * q, by omega, by go_num, by go_num, hqn.out⟩
        case measure => simp [intOf]
      · obtain rfl : j = 0 := by omega
        go_wp2
        go_ret
        exact ⟨ret1 (int_eq (by rw [show bs.take 8 = bs.take bs.length from (by rw [List.take_of_length_le (by omega), List.take_length])]; simpa using congrArg (Nat.cast (R := Int)) HQ.out)), rfl⟩
  · have h8' : (8 : Int) ≤ bs.length := by omega
    go_enter Try.func30, Try.ntmps30
    go_wp2
    go_loop [3, 4] (fun y i => ∃ j q : Nat, j ≤ 8 ∧ i = .int .i64 ((j : Int) - 1) ∧ y = .int .u64 q ∧ q = valL ((bs.take 8).drop j)) (fun _ i => (intOf i + 1).toNat)
    case atStart => exact ⟨8, 0, by omega, by first | rfl | go_num, rfl, by simp [valL]⟩
    case round =>
      obtain ⟨j, q, hj, rfl, rfl, hq⟩ := hrel
      have HQ := Lib.hid hq
      clear hq
      by_cases hpos : 0 < j
      · obtain ⟨b, off, rfl, hbs, hc⟩ := hcells (by omega)
        obtain ⟨i, rfl⟩ : ∃ i, j = i + 1 := ⟨j - 1, by omega⟩
        have hil : i < bs.length := by omega
        have hck : w.cell? ⟨b, off + i, none⟩ = some (.int .u8 ((bs[i]?.getD 0 : Nat) : Int)) := hc i hil
        have hb8 : bs[i]?.getD 0 < 256 := by simp [hil]; exact hb _ (List.getElem_mem hil)
        have hql : q < 256 ^ 7 := by
          rw [HQ.out]
          refine Nat.lt_of_lt_of_le (valL_lt _ fun x hx => hb x (List.mem_of_mem_take (List.mem_of_mem_drop hx))) (Nat.pow_le_pow_right (by decide) ?_)
          simp; omega
        have hqn0 : bs[i]?.getD 0 + 256 * q = valL ((bs.take 8).drop i) := by
          rw [valL_drop _ i (by simp; omega), ← HQ.out]
          simp [show i < 8 by omega]
        obtain ⟨c, hce⟩ : ∃ c, bs[i]?.getD 0 = c := ⟨_, rfl⟩
        rw [hce] at hck hb8 hqn0
        have hqn := Lib.hid hqn0
        clear hc hcells hce hqn0
        go_wp2
        go_round
        case rel => exact ⟨i, c + 256 * q, by omega, by go_num, by go_num, hqn.out⟩
        case measure => simp [intOf]
      · obtain rfl : j = 0 := by omega
        go_wp2
        go_ret
        exact ⟨ret1 (int_eq (by rw [show bs.take 8 = bs.take 8 from rfl]; simpa using congrArg (Nat.cast (R := Int)) HQ.out)), rfl⟩
theorem take_eq_succ {α : Type} (xs ys : List α) (k : Nat) (h : xs.take k = ys.take k) (hx : k < xs.length) (hy : k < ys.length) (he : xs[k] = ys[k]) : xs.take (k + 1) = ys.take (k + 1) := by
  rw [List.take_succ_eq_append_getElem hx, List.take_succ_eq_append_getElem hy, h, he]

set_option maxHeartbeats 400000 in
theorem same_any (v1 v2 : Value) (xs ys : List Nat) (w : World) (h1 : Reads w v1 (ints .u64 xs)) (h2 : Reads w v2 (ints .u64 ys)) (hx : xs.length ≤ 1048576) (hy : ys.length ≤ 1048576) :
    Calls Try.prog 14 #[v1, v2] w fun e w' => e = .returned (.bool (decide (xs = ys))) ∧ ∃ n, w' = w.drewN n := by
  obtain ⟨a, cap, rfl, hcap, hcells⟩ := h1.ints
  obtain ⟨b, cap2, rfl, hcap2, hcells2⟩ := h2.ints
  clear h1 h2
  by_cases hl : xs.length = ys.length
  · have hbe : (xs.length == ys.length) = true := by simp [hl]
    have HL := Lib.hid hl
    have hle : ys.length ≤ xs.length := by omega
    have hle2 : xs.length ≤ ys.length := by omega
    have hbi : (((xs.length : Nat) : Int) == ((ys.length : Nat) : Int)) = true := by simp; omega
    clear hl hbe
    go_enter Try.func14, Try.ntmps14
    go_wp2
    go_loopw [5] (fun i wr => ∃ k n : Nat, k ≤ xs.length ∧ i = .int .i64 k ∧ xs.take k = ys.take k ∧ wr = w.drewN n) (fun i _ => xs.length - (intOf i).toNat)
    case atStart => exact ⟨0, 0, by omega, rfl, rfl, rfl⟩
    case round =>
      obtain ⟨k, n, hk, rfl, ht, rfl⟩ := hrel
      have HT := Lib.hid ht
      clear ht
      by_cases hlt : k < xs.length
      · obtain ⟨p, o, rfl, hps, hc⟩ := hcells (by omega)
        obtain ⟨p2, o2, rfl, hps2, hc2⟩ := hcells2 (by omega)
        have hck := hc k hlt
        have hck2 := hc2 k (by omega)
        have hk2 : k < ys.length := by omega
        clear hc hc2 hcells hcells2
        simp only [hlt, hk2, getElem?_pos, Option.getD_some] at hck hck2
        obtain ⟨c, hce⟩ : ∃ c, xs[k] = c := ⟨_, rfl⟩
        obtain ⟨d, hde⟩ : ∃ d, ys[k] = d := ⟨_, rfl⟩
        rw [hce] at hck
        rw [hde] at hck2
        have i1 : (0 : Int) ≤ (k : Int) := by omega
        have i2 : (k : Int) < (xs.length : Int) := by omega
        have i3 : (k : Int) < (ys.length : Int) := by omega
        have Hc := Lib.hid hce
        have Hd := Lib.hid hde
        clear hce hde
        by_cases hcd : c = d
        · subst hcd
          go_wp2
          go_quiet (fail)
          go_wp2
          go_roundw
          case rel => exact ⟨k + 1, _, by omega, by go_num, take_eq_succ xs ys k HT.out hlt hk2 (by rw [Hc.out, Hd.out]), rfl⟩
          case measure => simp [intOf]; omega
        · have hne : ((c : Int) == (d : Int)) = false := by simp; omega
          go_wp2
          go_quiet (fail)
          go_wp2
          go_ret
          refine ⟨ret1 (congrArg Value.bool ?_), n + nq, by simp only [World.drewN_drewN]⟩
          symm
          rw [decide_eq_false_iff_not]
          intro e
          subst e
          exact hcd (by rw [← Hc.out, ← Hd.out])
      · obtain rfl : k = xs.length := by omega
        go_wp2
        go_ret
        refine ⟨ret1 (congrArg Value.bool ?_), _, rfl⟩
        symm
        rw [decide_eq_true_eq]
        have e := HT.out
        rw [List.take_length, HL.out, List.take_length] at e
        exact e
  · have hbi : (((xs.length : Nat) : Int) == ((ys.length : Nat) : Int)) = false := by simp; omega
    have HL := Lib.hid hl
    clear hl
    go_enter Try.func14, Try.ntmps14
    go_wp2
    go_ret
    refine ⟨ret1 (congrArg Value.bool ?_), 0, rfl⟩
    symm
    rw [decide_eq_false_iff_not]
    intro e
    exact HL.out (by rw [e])
end Go.Proofs.Ytaefnkccbmcllaa
