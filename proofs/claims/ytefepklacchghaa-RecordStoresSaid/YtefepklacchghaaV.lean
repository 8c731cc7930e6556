/- The document's Word: the number that bytes make. -/
import Derived.Test.YtefepklacchghaaC
namespace Go.Proofs.Ytefepklacchghaa
set_option linter.unusedVariables false
set_option linter.unusedSimpArgs false
open Go.RowKit

/-- The number that bytes make, the lowest first. -/
def valL : List Nat → Nat
  | [] => 0
  | b :: r => b + 256 * valL r

theorem valL_lt (l : List Nat) (h : ∀ x ∈ l, x < 256) : valL l < 256 ^ l.length := by
  induction l with
  | nil => simp [valL]
  | cons b r ih =>
    have h1 := h b (by simp)
    have h2 := ih (fun x hx => h x (by simp [hx]))
    simp only [valL, List.length_cons, Nat.pow_succ]
    omega

theorem valL_drop (l : List Nat) (j : Nat) (h : j < l.length) : valL (l.drop j) = l[j]?.getD 0 + 256 * valL (l.drop (j + 1)) := by
  rw [List.drop_eq_getElem_cons h]
  simp [valL, h]

set_option maxHeartbeats 400000 in
theorem word_any (v : Value) (bs : List Nat) (w : World) (hv : Reads w v (ints .u8 bs)) (hb : ∀ x ∈ bs, x < 256) (hlen : bs.length ≤ 1048576) :
    Calls Try.prog 30 #[v] w fun e w' => e = .returned (.int .u64 (valL (bs.take 8) : Nat)) ∧ w = w' := by
  obtain ⟨a, cap, rfl, hcap, hcells⟩ := hv.ints
  rcases Nat.lt_or_ge bs.length 8 with h8 | h8
  · have h8' : (bs.length : Int) < 8 := by omega
    go_enter Try.func30, Try.ntmps30
    go_wp2
    go_loop [3, 4] (fun y i => ∃ j q : Nat, j ≤ bs.length ∧ i = .int .i64 ((j : Int) - 1) ∧ y = .int .u64 q ∧ q = valL ((bs.take bs.length).drop j)) (fun _ i => (intOf i + 1).toNat)
    case atStart => exact ⟨bs.length, 0, by omega, by first | rfl | go_num, rfl, by simp [valL]⟩
    case round =>
      obtain ⟨j, q, hj, rfl, rfl, hq⟩ := hrel
      have HQ := Lib.hid hq
      clear hq
      by_cases hpos : 0 < j
      · obtain ⟨b, off, rfl, hbs, hc⟩ := hcells (by omega)
        obtain ⟨i, rfl⟩ : ∃ i, j = i + 1 := ⟨j - 1, by omega⟩
        have hil : i < bs.length := by omega
        have hck : w.cell? ⟨b, off + i, none⟩ = some (.int .u8 ((bs[i]?.getD 0 : Nat) : Int)) := hc i hil
        have hb8 : bs[i]?.getD 0 < 256 := by simp [hil]; exact hb _ (List.getElem_mem hil)
        have hql : q < 256 ^ 7 := by
          rw [HQ.out]
          refine Nat.lt_of_lt_of_le (valL_lt _ fun x hx => hb x (List.mem_of_mem_take (List.mem_of_mem_drop hx))) (Nat.pow_le_pow_right (by decide) ?_)
          simp; omega
        have hqn0 : bs[i]?.getD 0 + 256 * q = valL ((bs.take bs.length).drop i) := by
          rw [valL_drop _ i (by simp; omega), ← HQ.out]
          simp [show i < bs.length by omega]
        obtain ⟨c, hce⟩ : ∃ c, bs[i]?.getD 0 = c := ⟨_, rfl⟩
        rw [hce] at hck hb8 hqn0
        have hqn := Lib.hid hqn0
        clear hc hcells hce hqn0
        go_wp2
        go_round
        case rel => exact ⟨i, c + 256 * q, by omega, by go_num, by go_num, hqn.out⟩
        case measure => simp [intOf]
      · obtain rfl : j = 0 := by omega
        go_wp2
        go_ret
        exact ⟨ret1 (int_eq (by rw [show bs.take 8 = bs.take bs.length from (by rw [List.take_of_length_le (by omega), List.take_length])]; simpa using congrArg (Nat.cast (R := Int)) HQ.out)), rfl⟩
  · have h8' : (8 : Int) ≤ bs.length := by omega
    go_enter Try.func30, Try.ntmps30
    go_wp2
    go_loop [3, 4] (fun y i => ∃ j q : Nat, j ≤ 8 ∧ i = .int .i64 ((j : Int) - 1) ∧ y = .int .u64 q ∧ q = valL ((bs.take 8).drop j)) (fun _ i => (intOf i + 1).toNat)
    case atStart => exact ⟨8, 0, by omega, by first | rfl | go_num, rfl, by simp [valL]⟩
    case round =>
      obtain ⟨j, q, hj, rfl, rfl, hq⟩ := hrel
      have HQ := Lib.hid hq
      clear hq
      by_cases hpos : 0 < j
      · obtain ⟨b, off, rfl, hbs, hc⟩ := hcells (by omega)
        obtain ⟨i, rfl⟩ : ∃ i, j = i + 1 := ⟨j - 1, by omega⟩
        have hil : i < bs.length := by omega
        have hck : w.cell? ⟨b, off + i, none⟩ = some (.int .u8 ((bs[i]?.getD 0 : Nat) : Int)) := hc i hil
        have hb8 : bs[i]?.getD 0 < 256 := by simp [hil]; exact hb _ (List.getElem_mem hil)
        have hql : q < 256 ^ 7 := by
          rw [HQ.out]
          refine Nat.lt_of_lt_of_le (valL_lt _ fun x hx => hb x (List.mem_of_mem_take (List.mem_of_mem_drop hx))) (Nat.pow_le_pow_right (by decide) ?_)
          simp; omega
        have hqn0 : bs[i]?.getD 0 + 256 * q = valL ((bs.take 8).drop i) := by
          rw [valL_drop _ i (by simp; omega), ← HQ.out]
          simp [show i < 8 by omega]
        obtain ⟨c, hce⟩ : ∃ c, bs[i]?.getD 0 = c := ⟨_, rfl⟩
        rw [hce] at hck hb8 hqn0
        have hqn := Lib.hid hqn0
        clear hc hcells hce hqn0
        go_wp2
        go_round
        case rel => exact ⟨i, c + 256 * q, by omega, by go_num, by go_num, hqn.out⟩
        case measure => simp [intOf]
      · obtain rfl : j = 0 := by omega
        go_wp2
        go_ret
        exact ⟨ret1 (int_eq (by rw [show bs.take 8 = bs.take 8 from rfl]; simpa using congrArg (Nat.cast (R := Int)) HQ.out)), rfl⟩

end Go.Proofs.Ytefepklacchghaa
