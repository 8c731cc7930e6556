/- The document's Word. -/
import Derived.Test.YtodpeljmcpefeaaDoorEls
namespace Go.Proofs.YtodpeljmcpefeaaDoor
set_option linter.unusedVariables false
set_option linter.unusedSimpArgs false
open Go.RowKit

/-- The number that bytes make, the lowest first. -/
def valL : List Nat → Nat
  | [] => 0
  | b :: r => b + 256 * valL r

theorem valL_lt (l : List Nat) (h : ∀ x ∈ l, x < 256) : valL l < 256 ^ l.length := by
  induction l with
  | nil => simp [valL]
  | cons b r ih =>
    have h1 := h b (by simp)
    have h2 := ih (fun x hx => h x (by simp [hx]))
    simp only [valL, List.length_cons, Nat.pow_succ]
    omega

theorem valL_drop (l : List Nat) (j : Nat) (h : j < l.length) : valL (l.drop j) = l[j]?.getD 0 + 256 * valL (l.drop (j + 1)) := by
  rw [List.drop_eq_getElem_cons h]
  simp [valL, h]

set_option maxHeartbeats 400000 in
theorem word_any (v : Value) (bs : List Nat) (w : World) (hv : Reads w v (ints .u8 bs)) (hb : ∀ x ∈ bs, x < 256) (hlen : bs.length ≤ 1048576) :
    Calls Tryd.prog 21 #[v] w fun e w' => e = .returned (.int .u64 (valL (bs.take 8) : Nat)) ∧ w = w' := by
  obtain ⟨a, cap, rfl, hcap, hcells⟩ := hv.ints
  rcases Nat.lt_or_ge bs.length 8 with h8 | h8
  · have h8' : (bs.length : Int) < 8 := by omega
    go_enter Tryd.func21, Tryd.ntmps21
    go_wp2
    go_loop [3, 4] (fun y i => ∃ j q : Nat, j ≤ bs.length ∧ i = .int .i64 ((j : Int) - 1) ∧ y = .int .u64 q ∧ q = valL ((bs.take bs.length).drop j)) (fun _ i => (intOf i + 1).toNat)
    case atStart => exact ⟨bs.length, 0, by omega, by first | rfl | go_num, rfl, by simp [valL]⟩
    case round =>
      obtain ⟨j, q, hj, rfl, rfl, hq⟩ := hrel
      have HQ := Lib.hid hq
      clear hq
      by_cases hpos : 0 < j
      · obtain ⟨b, off, rfl, hbs, hc⟩ := hcells (by omega)
        obtain ⟨i, rfl⟩ : ∃ i, j = i + 1 := ⟨j - 1, by omega⟩
        have hil : i < bs.length := by omega
        have hck : w.cell? ⟨b, off + i, none⟩ = some (.int .u8 ((bs[i]?.getD 0 : Nat) : Int)) := hc i hil
        have hb8 : bs[i]?.getD 0 < 256 := by simp [hil]; exact hb _ (List.getElem_mem hil)
        have hql : q < 256 ^ 7 := by
          rw [HQ.out]
          refine Nat.lt_of_lt_of_le (valL_lt _ fun x hx => hb x (List.mem_of_mem_take (List.mem_of_mem_drop hx))) (Nat.pow_le_pow_right (by decide) ?_)
          simp; omega
        have hqn0 : bs[i]?.getD 0 + 256 * q = valL ((bs.take bs.length).drop i) := by
          rw [valL_drop _ i (by simp; omega), ← HQ.out]
          simp [show i < bs.length by omega]
        obtain ⟨c, hce⟩ : ∃ c, bs[i]?.getD 0 = c := ⟨_, rfl⟩
        rw [hce] at hck hb8 hqn0
        have hqn := Lib.hid hqn0
        clear hc hcells hce hqn0
        go_wp2
        go_round
        case rel => exact ⟨i, c + 256 * q, by omega, by go_num, by go_num, hqn.out⟩
        case measure => simp [intOf]
      · obtain rfl : j = 0 := by omega
        go_wp2
        go_ret
        exact ⟨ret1 (int_eq (by rw [show bs.take 8 = bs.take bs.length from (by rw [List.take_of_length_le (by omega), List.take_length])]; simpa using congrArg (Nat.cast (R := Int)) HQ.out)), rfl⟩
  · have h8' : (8 : Int) ≤ bs.length := by omega
    go_enter Tryd.func21, Tryd.ntmps21
    go_wp2
    go_loop [3, 4] (fun y i => ∃ j q : Nat, j ≤ 8 ∧ i = .int .i64 ((j : Int) - 1) ∧ y = .int .u64 q ∧ q = valL ((bs.take 8).drop j)) (fun _ i => (intOf i + 1).toNat)
    case atStart => exact ⟨8, 0, by omega, by first | rfl | go_num, rfl, by simp [valL]⟩
    case round =>
      obtain ⟨j, q, hj, rfl, rfl, hq⟩ := hrel
      have HQ := Lib.hid hq
      clear hq
      by_cases hpos : 0 < j
      · obtain ⟨b, off, rfl, hbs, hc⟩ := hcells (by omega)
        obtain ⟨i, rfl⟩ : ∃ i, j = i + 1 := ⟨j - 1, by omega⟩
        have hil : i < bs.length := by omega
        have hck : w.cell? ⟨b, off + i, none⟩ = some (.int .u8 ((bs[i]?.getD 0 : Nat) : Int)) := hc i hil
        have hb8 : bs[i]?.getD 0 < 256 := by simp [hil]; exact hb _ (List.getElem_mem hil)
        have hql : q < 256 ^ 7 := by
          rw [HQ.out]
          refine Nat.lt_of_lt_of_le (valL_lt _ fun x hx => hb x (List.mem_of_mem_take (List.mem_of_mem_drop hx))) (Nat.pow_le_pow_right (by decide) ?_)
          simp; omega
        have hqn0 : bs[i]?.getD 0 + 256 * q = valL ((bs.take 8).drop i) := by
          rw [valL_drop _ i (by simp; omega), ← HQ.out]
          simp [show i < 8 by omega]
        obtain ⟨c, hce⟩ : ∃ c, bs[i]?.getD 0 = c := ⟨_, rfl⟩
        rw [hce] at hck hb8 hqn0
        have hqn := Lib.hid hqn0
        clear hc hcells hce hqn0
        go_wp2
        go_round
        case rel => exact ⟨i, c + 256 * q, by omega, by go_num, by go_num, hqn.out⟩
        case measure => simp [intOf]
      · obtain rfl : j = 0 := by omega
        go_wp2
        go_ret
        exact ⟨ret1 (int_eq (by rw [show bs.take 8 = bs.take 8 from rfl]; simpa using congrArg (Nat.cast (R := Int)) HQ.out)), rfl⟩

/-- The word number j of bytes that are laid. -/
def wordAt (bs : List Nat) (j : Nat) : Nat := valL ((bs.drop (8 * j)).take 8)

/-- So many words of bytes that are laid. -/
def layN (bs : List Nat) (n : Nat) : List Nat := (List.range n).map (wordAt bs)

def layL (bs : List Nat) : List Nat := layN bs ((bs.length + 7) / 8)

theorem layN_length (bs : List Nat) (n : Nat) : (layN bs n).length = n := by simp [layN]

theorem layN_succ (bs : List Nat) (n : Nat) : layN bs (n + 1) = layN bs n ++ [wordAt bs n] := by simp [layN, List.range_succ]

theorem wordsFor_any (n N : Nat) (h : n ≤ 9223372036854775807) (hN : Hid ((n + 7) / 8 = N)) (w : World) : Calls Tryd.prog 29 #[.int .i64 n] w fun e w' => e = .returned (.int .i64 N) ∧ w = w' := by
  have HN := hN.out
  clear hN
  subst HN
  by_cases h8 : n % 8 = 0
  · have hb : (((n : Nat) : Int) % 8 == 0) = true := by simp; omega
    go_enter Tryd.func29, Tryd.ntmps29
    go_wp2
    go_ret
    exact ⟨ret1 (int_eq (by omega)), rfl⟩
  · have hb : (((n : Nat) : Int) % 8 == 0) = false := by simp; omega
    go_enter Tryd.func29, Tryd.ntmps29
    go_wp2
    go_ret
    exact ⟨ret1 (int_eq (by omega)), rfl⟩

theorem or_shift (q c s : Nat) (hq : q < 256 ^ s) (hc : c < 256) (hs : s < 8) : bits .or .u64 (q : Int) (IntKind.u64.wrap ((c : Int) * 2 ^ (8 * s))) = ((q + c * 256 ^ s : Nat) : Int) := by
  have e8 : (256 : Nat) ^ s = 2 ^ (8 * s) := by rw [show (256 : Nat) = 2 ^ 8 by rfl, ← Nat.pow_mul]
  have hcs : c * 256 ^ s + 256 ^ s ≤ 256 ^ 8 := by
    have h1 : (c + 1) * 256 ^ s ≤ 256 * 256 ^ s := Nat.mul_le_mul_right _ (by omega)
    have h2 : 256 ^ (s + 1) ≤ 256 ^ 8 := Nat.pow_le_pow_right (by decide) (by omega)
    rw [Nat.pow_succ] at h2
    rw [Nat.add_mul, Nat.one_mul] at h1
    omega
  have ew : IntKind.u64.wrap ((c : Int) * 2 ^ (8 * s)) = ((c * 256 ^ s : Nat) : Int) := by
    rw [IntKind.wrap_u64, e8]
    have : ((c : Int) * 2 ^ (8 * s)) = ((c * 2 ^ (8 * s) : Nat) : Int) := by simp
    rw [this, ← e8]
    omega
  rw [ew, u64_or_nat q (c * 256 ^ s) (by omega) (by omega), Nat.or_comm, nat_join (8 * s) _ _ (by rw [e8]; exact Nat.mul_mod_left _ _) (by rw [← e8]; exact hq)]
  congr 1
  omega

set_option maxHeartbeats 400000 in
theorem lay1_any (i N O Bx g b off len cap q c : Nat) (w : World) (hi : i ≤ 1048576) (hO : Boxed w O 57 (.slice (some ⟨g, 0, none⟩) N N)) (hB : Boxed w Bx 25 (.slice (some ⟨b, off, none⟩) len cap))
    (hil : i < len) (hiN : i / 8 < N) (hcell : w.cell? ⟨b, off + i, none⟩ = some (.int .u8 c)) (hg : w.cell? ⟨g, i / 8, none⟩ = some (.int .u64 q)) (hf : w.frozen? ⟨g, i / 8, none⟩ = false) (hq : q < 256 ^ (i % 8)) (hc : c < 256) :
    Calls Tryd.prog 30 #[.int .i64 i, .pointer (some ⟨O, 0, none⟩), .pointer (some ⟨Bx, 0, none⟩)] w fun e w' => e = .returned (.tuple #[]) ∧ w' = (w.setCell ⟨g, i / 8, none⟩ (.int .u64 (q + c * 256 ^ (i % 8) : Nat))).drew := by
  have E := Lib.hid (or_shift q c (i % 8) hq hc (Nat.mod_lt _ (by decide)))
  have o1 := hO.cell
  have b1 := hB.cell
  have i1 : (i : Int) < (len : Int) := by omega
  have i2 : ((i : Int) / 8) < (N : Int) := by omega
  have i3 : (0 : Int) ≤ (i : Int) / 8 := by omega
  have i4 : ((i : Int) / 8).toNat = i / 8 := by omega
  have hwr : IntKind.i64.wrap (8 * ((i : Int) % 8)) = 8 * ((i : Int) % 8) := IntWalk.i64_in _ (by omega)
  have hw0 : (0 : Int) ≤ 8 * ((i : Int) % 8) := by omega
  have hw1 : (8 * ((i : Int) % 8)).toNat = 8 * (i % 8) := by omega
  clear hq
  go_enter Tryd.func30, Tryd.ntmps30
  go_wp2
  go_region
  go_end0
  refine ⟨rfl, ?_⟩
  rw [← E.out]

theorem wordAt_take (bs : List Nat) (k j : Nat) : wordAt (bs.take k) j = valL ((bs.drop (8 * j)).take (min (k - 8 * j) 8)) := by
  unfold wordAt
  rw [List.drop_take, List.take_take, Nat.min_comm]

theorem valL_append (l r : List Nat) : valL (l ++ r) = valL l + 256 ^ l.length * valL r := by
  induction l with
  | nil => simp [valL]
  | cons b l ih => simp only [List.cons_append, valL, ih, List.length_cons, Nat.pow_succ, Nat.mul_add]; rw [Nat.mul_comm (256 ^ l.length) 256, Nat.mul_assoc]; omega

theorem wordAt_other (bs : List Nat) (k j : Nat) (h : j ≠ k / 8) : wordAt (bs.take (k + 1)) j = wordAt (bs.take k) j := by
  rw [wordAt_take, wordAt_take]
  congr 2
  omega

theorem wordAt_step (bs : List Nat) (k : Nat) (h : k < bs.length) : wordAt (bs.take (k + 1)) (k / 8) = wordAt (bs.take k) (k / 8) + bs[k]?.getD 0 * 256 ^ (k % 8) := by
  rw [wordAt_take, wordAt_take]
  rw [show min (k + 1 - 8 * (k / 8)) 8 = k % 8 + 1 by omega, show min (k - 8 * (k / 8)) 8 = k % 8 by omega]
  rw [take_snoc _ 0 _ (by simp; omega), valL_append]
  have hl : ((bs.drop (8 * (k / 8))).take (k % 8)).length = k % 8 := by simp; omega
  rw [hl]
  simp only [valL, List.getElem?_drop]
  rw [show 8 * (k / 8) + k % 8 = k by omega]
  simp [Nat.mul_comm]

theorem wordAt_small (bs : List Nat) (k : Nat) (h : ∀ x ∈ bs, x < 256) : wordAt (bs.take k) (k / 8) < 256 ^ (k % 8) := by
  rw [wordAt_take]
  refine Nat.lt_of_lt_of_le (valL_lt _ fun x hx => h x (List.mem_of_mem_drop (List.mem_of_mem_take hx))) (Nat.pow_le_pow_right (by decide) ?_)
  simp; omega

theorem layN_set (bs : List Nat) (k N : Nat) (h : k < bs.length) (hk : k / 8 < N) : (layN (bs.take k) N).set (k / 8) (wordAt (bs.take k) (k / 8) + bs[k]?.getD 0 * 256 ^ (k % 8)) = layN (bs.take (k + 1)) N := by
  apply List.ext_getElem
  · simp [layN_length]
  · intro j h1 h2
    simp only [List.getElem_set]
    by_cases e : k / 8 = j
    · subst e; simp [layN, ← wordAt_step bs k h]
    · simp [e, layN, wordAt_other bs k j (fun h => e h.symm)]

set_option maxHeartbeats 400000 in
theorem lay_any (v : Value) (bs : List Nat) (N : Nat) (w : World) (hv : Reads w v (ints .u8 bs)) (hb : ∀ x ∈ bs, x < 256) (hlen : bs.length ≤ 1048576) (hN : (bs.length + 7) / 8 = N) :
    Calls Tryd.prog 25 #[v] w fun e w' => ∃ g, e = .returned (.slice (some ⟨g, 0, none⟩) N N) ∧ w.heap.size ≤ g ∧ RowL w' g 22 (ints .u64 (layL bs)) ∧ Below w.heap.size w w' := by
  obtain ⟨a, cap, rfl, hcap, hcells⟩ := hv.ints
  have hN1 : 8 * N < bs.length + 8 := by omega
  have hN2 : bs.length ≤ 8 * N := by omega
  have hmk := run_mk El64 N N (by omega) (by omega) (by omega) (N : Int) (N : Int) rfl rfl
  unfold layL
  have HN := Lib.hid hN
  rw [hN]
  clear hN
  go_enter Tryd.func25, Tryd.ntmps25
  go_wp2_with (first | (go_at_call 29; refine (wordsFor_any _ N (by omega) HN _).mono ?_; rintro e w1 ⟨rfl, rfl⟩))
  go_loopw [13] (fun i wr => ∃ k : Nat, k ≤ bs.length ∧ i = .int .i64 k ∧ Boxed wr w.heap.size 25 (.slice a bs.length cap) ∧ Boxed wr (w.heap.size + 1 + 1) 57 (.slice (some ⟨w.heap.size + 1, 0, none⟩) N N) ∧ RowL wr (w.heap.size + 1) 22 (ints .u64 (layN (bs.take k) N)) ∧ Below w.heap.size w wr) (fun i _ => bs.length - (intOf i).toNat)
  case atStart =>
    refine ⟨0, by omega, rfl, ((Boxed.new w _ _).alloc _).alloc _, ?_, ?_, (((Below.refl _ w).alloc (Nat.le_refl _) _).alloc (by simp) _).alloc (by simp; omega) _⟩
    · have h := Boxed.new ((w.alloc (.cells #[.slice a bs.length cap] 25)).alloc (.cells (madeCells #[.int .u64 0] N) 22)) 57 (.slice (some ⟨w.heap.size + 1, 0, none⟩) N N)
      simpa using h
    · have h := (RowL.made (w.alloc (.cells #[.slice a bs.length cap] 25)) 22 (.int .u64 0) N).alloc (.cells #[.slice (some ⟨w.heap.size + 1, 0, none⟩) N N] 57)
      have e : ints .u64 (layN (bs.take 0) N) = List.replicate N (.int .u64 0) := by
        apply List.ext_getElem
        · simp [layN_length]
        · intro j h1 h2; simp [layN, wordAt, valL]
      rw [e]
      simpa using h
  case round =>
    obtain ⟨k, hk, rfl, hbb, hbo, hrow, hbl⟩ := hrel
    by_cases hlt : k < bs.length
    · obtain ⟨b, off, rfl, hbs, hc⟩ := hcells (by omega)
      have hck : wr.cell? ⟨b, off + k, none⟩ = some (.int .u8 ((bs[k]?.getD 0 : Nat) : Int)) := (hbl.cell (p := ⟨b, off + k, none⟩) hbs).trans (hc k hlt)
      have hb8 : bs[k]?.getD 0 < 256 := by simp [hlt]; exact hb _ (List.getElem_mem hlt)
      have hk8 : k / 8 < N := by omega
      have hgk : wr.cell? ⟨w.heap.size + 1, k / 8, none⟩ = some (.int .u64 ((wordAt (bs.take k) (k / 8) : Nat) : Int)) := hrow.cell (by simp [layN, hk8])
      have hgf := hrow.frozen (k / 8)
      have hq := wordAt_small bs k hb
      have hst0 := layN_set bs k N hlt hk8
      obtain ⟨c, hce⟩ : ∃ c, bs[k]?.getD 0 = c := ⟨_, rfl⟩
      obtain ⟨q, hqe⟩ : ∃ q, wordAt (bs.take k) (k / 8) = q := ⟨_, rfl⟩
      rw [hce] at hck hb8 hst0
      rw [hqe] at hgk hq hst0
      have hst := Lib.hid hst0
      clear hst0 hce hqe
      have hl1 := Lib.hid (lay1_any k N (w.heap.size + 1 + 1) w.heap.size (w.heap.size + 1) b off bs.length cap _ _ wr (by omega) hbo hbb hlt hk8 hck hgk hgf hq hb8)
      clear hc hcells hck hgk hgf hq hb8 hb hv
      go_wp2_with (first | (go_at_call 30; refine hl1.out.mono ?_; rintro e w1 ⟨rfl, rfl⟩))
      go_roundw
      case rel =>
        refine ⟨k + 1, by omega, by go_num, box_other hbb (by simp) _, box_other hbo (by simp) _, ?_, (hbl.setCell (p := ⟨w.heap.size + 1, k / 8, none⟩) (by simp) _).drew⟩
        rw [← hst.out]
        have h := (hrow.set (k / 8) (.int .u64 (q + c * 256 ^ (k % 8) : Nat))).drew
        have e : ints .u64 ((layN (bs.take k) N).set (k / 8) (q + c * 256 ^ (k % 8))) = (ints .u64 (layN (bs.take k) N)).set (k / 8) (.int .u64 (q + c * 256 ^ (k % 8) : Nat)) := by simp [List.map_set]
        rw [e]
        first | exact h | (simp at h ⊢; exact h)
      case measure => simp [intOf]; omega
    · obtain rfl : k = bs.length := by omega
      have hbo' := hbo.cell
      go_wp2
      go_ret
      exact ⟨_, rfl, by omega, by simpa using hrow, hbl⟩

end Go.Proofs.YtodpeljmcpefeaaDoor
