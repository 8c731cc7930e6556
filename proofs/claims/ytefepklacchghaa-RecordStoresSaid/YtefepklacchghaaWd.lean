/- words: Lay, Take, Field in this seat. -/
import Derived.Test.YtefepklacchghaaV
import Derived.Test.YtefepklacchghaaProg
import Derived.Test.YtefepklacchghaaMath
import Derived.Test.YtefepklacchghaaKit
import Derived.WalkKit
import Derived.IntWalk
import Derived.Lib.Hide
import Derived.Deep.QuietTactic
import Derived.BigQuiet
namespace Go.Proofs.Ytefepklacchghaa
set_option linter.unusedVariables false
set_option linter.unusedSimpArgs false
open Go.RowKit

/-- The word number j of bytes that are laid. -/
def wordAt (bs : List Nat) (j : Nat) : Nat := valL ((bs.drop (8 * j)).take 8)

/-- So many words of bytes that are laid. -/
def layN (bs : List Nat) (n : Nat) : List Nat := (List.range n).map (wordAt bs)

def layL (bs : List Nat) : List Nat := layN bs ((bs.length + 7) / 8)

theorem layN_length (bs : List Nat) (n : Nat) : (layN bs n).length = n := by simp [layN]

theorem layN_succ (bs : List Nat) (n : Nat) : layN bs (n + 1) = layN bs n ++ [wordAt bs n] := by simp [layN, List.range_succ]

theorem Reads.from {w : World} {b off len cap : Nat} {xs : List Value} (h : Reads w (.slice (some ⟨b, off, none⟩) len cap) xs) (j : Nat) (hj : j ≤ len) : Reads w (.slice (some ⟨b, off + j, none⟩) (len - j) (cap - j)) (xs.drop j) := by
  obtain ⟨a', cap', e, hc, h⟩ := h
  cases e
  refine ⟨some ⟨b, off + j, none⟩, cap - j, by simp, by simp; omega, fun hne => ?_⟩
  obtain ⟨b', off', ha, hlt, hcell⟩ := h (by intro e; simp [e] at hne)
  cases ha
  refine ⟨b, off + j, rfl, hlt, fun i hi => ?_⟩
  simp only [List.length_drop] at hi
  rw [Nat.add_assoc, hcell (j + i) (by omega)]
  simp

set_option maxHeartbeats 400000 in
theorem rlay_any (v : Value) (bs : List Nat) (w : World) (hv : Reads w v (ints .u8 bs)) (hb : ∀ x ∈ bs, x < 256) (hlen : bs.length ≤ 1048576) :
    Calls Try.prog 21 #[v] w fun e w' => ∃ v', e = .returned v' ∧ w'.ownsRow w.heap.size 38 1 v' ((bs.length + 7) / 8) (ints .u64 (layL bs)) ∧ Below w.heap.size w w' := by
  obtain ⟨a, cap, rfl, hcap, hcells⟩ := hv.ints
  obtain ⟨N, hN⟩ : ∃ N, (bs.length + 7) / 8 = N := ⟨_, rfl⟩
  have hN1 : 8 * N < bs.length + 8 := by omega
  have hN2 : bs.length ≤ 8 * N := by omega
  unfold layL
  rw [hN]
  clear hN
  go_enter Try.func21, Try.ntmps21
  go_wp2
  go_loopw [3, 4] (fun v i wr => ∃ k : Nat, k ≤ N ∧ i = .int .i64 (8 * (k : Int)) ∧ wr.ownsRow w.heap.size 38 1 v k (ints .u64 (layN bs k)) ∧ Below w.heap.size w wr) (fun _ i _ => bs.length + 8 - (intOf i).toNat)
  case atStart => exact ⟨0, by omega, rfl, World.ownsRow_nil _ _ _ _, Below.refl _ _⟩
  case round =>
    obtain ⟨k, hk, rfl, hr, hbl⟩ := hrel
    have hsz := hbl.size
    by_cases hlt : 8 * k < bs.length
    · obtain ⟨b, off, rfl, hbs, hc⟩ := hcells (by omega)
      have hkN : k < N := by omega
      have hrd := Lib.hid (hv.same hsz hbl.block)
      clear hc hcells hv
      have hd : ∀ x ∈ bs.drop (8 * k), x < 256 := fun x hx => hb x (List.mem_of_mem_drop hx)
      have Hd := Lib.hid hd
      clear hd hb
      go_wp2_with (first | (go_at_call 30; refine (word_any _ (bs.drop (8 * k)) _ (by have := hrd.out.from (8 * k) (by omega); simpa using this) Hd.out (by simp; omega)).mono ?_; rintro e w1 ⟨rfl, rfl⟩) | (at_builtin; go_must (refine list_app El64 rfl rfl (by first | (simp [Act.eval]; done) | (simp [Act.eval]; exact ⟨rfl, rfl⟩) | (simp [Act.eval]; rfl)) (by first | (simp [Act.eval]; done) | (simp [Act.eval]; exact ⟨rfl, rfl⟩) | (simp [Act.eval]; rfl)) (hr.alloc _) (by first | exact cell_new _ _ _ | exact cell_new_d _ _ _) rfl (by first | omega | (simp; omega)) (by simp [maxLen]; omega) (by first | omega | (simp; omega)) ?_); intro g cp w1 hown hgrow _ _; have hb1 := below_app hr (by omega) hgrow; clear hgrow))
      go_roundw
      case rel => exact ⟨k + 1, by omega, by go_num, by rw [layN_succ, ints_app]; exact hown, hbl.trans hb1⟩
      case measure => simp [intOf]; omega
    · obtain rfl : k = N := by omega
      go_wp2
      go_ret
      exact ⟨_, rfl, hr, hbl⟩

theorem wordsFor_any (n N : Nat) (h : n ≤ 9223372036854775807) (hN : Hid ((n + 7) / 8 = N)) (w : World) : Calls Try.prog 28 #[.int .i64 n] w fun e w' => e = .returned (.int .i64 N) ∧ w = w' := by
  have HN := hN.out
  clear hN
  subst HN
  by_cases h8 : n % 8 = 0
  · have hb : (((n : Nat) : Int) % 8 == 0) = true := by simp; omega
    go_enter Try.func28, Try.ntmps28
    go_wp2
    go_ret
    exact ⟨ret1 (int_eq (by omega)), rfl⟩
  · have hb : (((n : Nat) : Int) % 8 == 0) = false := by simp; omega
    go_enter Try.func28, Try.ntmps28
    go_wp2
    go_ret
    exact ⟨ret1 (int_eq (by omega)), rfl⟩

theorem or_shift (q c s : Nat) (hq : q < 256 ^ s) (hc : c < 256) (hs : s < 8) : bits .or .u64 (q : Int) (IntKind.u64.wrap ((c : Int) * 2 ^ (8 * s))) = ((q + c * 256 ^ s : Nat) : Int) := by
  have e8 : (256 : Nat) ^ s = 2 ^ (8 * s) := by rw [show (256 : Nat) = 2 ^ 8 by rfl, ← Nat.pow_mul]
  have hcs : c * 256 ^ s + 256 ^ s ≤ 256 ^ 8 := by
    have h1 : (c + 1) * 256 ^ s ≤ 256 * 256 ^ s := Nat.mul_le_mul_right _ (by omega)
    have h2 : 256 ^ (s + 1) ≤ 256 ^ 8 := Nat.pow_le_pow_right (by decide) (by omega)
    rw [Nat.pow_succ] at h2
    rw [Nat.add_mul, Nat.one_mul] at h1
    omega
  have ew : IntKind.u64.wrap ((c : Int) * 2 ^ (8 * s)) = ((c * 256 ^ s : Nat) : Int) := by
    rw [IntKind.wrap_u64, e8]
    have : ((c : Int) * 2 ^ (8 * s)) = ((c * 2 ^ (8 * s) : Nat) : Int) := by simp
    rw [this, ← e8]
    omega
  rw [ew, u64_or_nat q (c * 256 ^ s) (by omega) (by omega), Nat.or_comm, nat_join (8 * s) _ _ (by rw [e8]; exact Nat.mul_mod_left _ _) (by rw [← e8]; exact hq)]
  congr 1
  omega

set_option maxHeartbeats 400000 in
theorem lay1_any (i N O Bx g b off len cap q c : Nat) (w : World) (hi : i ≤ 1048576) (hO : Boxed w O 25 (.slice (some ⟨g, 0, none⟩) N N)) (hB : Boxed w Bx 57 (.slice (some ⟨b, off, none⟩) len cap))
    (hil : i < len) (hiN : i / 8 < N) (hcell : w.cell? ⟨b, off + i, none⟩ = some (.int .u8 c)) (hg : w.cell? ⟨g, i / 8, none⟩ = some (.int .u64 q)) (hf : w.frozen? ⟨g, i / 8, none⟩ = false) (hq : q < 256 ^ (i % 8)) (hc : c < 256) :
    Calls Try.prog 29 #[.int .i64 i, .pointer (some ⟨O, 0, none⟩), .pointer (some ⟨Bx, 0, none⟩)] w fun e w' => e = .returned (.tuple #[]) ∧ w' = (w.setCell ⟨g, i / 8, none⟩ (.int .u64 (q + c * 256 ^ (i % 8) : Nat))).drew := by
  have E := Lib.hid (or_shift q c (i % 8) hq hc (Nat.mod_lt _ (by decide)))
  have o1 := hO.cell
  have b1 := hB.cell
  have i1 : (i : Int) < (len : Int) := by omega
  have i2 : ((i : Int) / 8) < (N : Int) := by omega
  have i3 : (0 : Int) ≤ (i : Int) / 8 := by omega
  have i4 : ((i : Int) / 8).toNat = i / 8 := by omega
  have hwr : IntKind.i64.wrap (8 * ((i : Int) % 8)) = 8 * ((i : Int) % 8) := IntWalk.i64_in _ (by omega)
  have hw0 : (0 : Int) ≤ 8 * ((i : Int) % 8) := by omega
  have hw1 : (8 * ((i : Int) % 8)).toNat = 8 * (i % 8) := by omega
  clear hq
  go_enter Try.func29, Try.ntmps29
  go_wp2
  go_region
  go_end0
  refine ⟨rfl, ?_⟩
  rw [← E.out]

theorem wordAt_take (bs : List Nat) (k j : Nat) : wordAt (bs.take k) j = valL ((bs.drop (8 * j)).take (min (k - 8 * j) 8)) := by
  unfold wordAt
  rw [List.drop_take, List.take_take, Nat.min_comm]

theorem valL_append (l r : List Nat) : valL (l ++ r) = valL l + 256 ^ l.length * valL r := by
  induction l with
  | nil => simp [valL]
  | cons b l ih => simp only [List.cons_append, valL, ih, List.length_cons, Nat.pow_succ, Nat.mul_add]; rw [Nat.mul_comm (256 ^ l.length) 256, Nat.mul_assoc]; omega

theorem wordAt_other (bs : List Nat) (k j : Nat) (h : j ≠ k / 8) : wordAt (bs.take (k + 1)) j = wordAt (bs.take k) j := by
  rw [wordAt_take, wordAt_take]
  congr 2
  omega

theorem wordAt_step (bs : List Nat) (k : Nat) (h : k < bs.length) : wordAt (bs.take (k + 1)) (k / 8) = wordAt (bs.take k) (k / 8) + bs[k]?.getD 0 * 256 ^ (k % 8) := by
  rw [wordAt_take, wordAt_take]
  rw [show min (k + 1 - 8 * (k / 8)) 8 = k % 8 + 1 by omega, show min (k - 8 * (k / 8)) 8 = k % 8 by omega]
  rw [take_snoc _ 0 _ (by simp; omega), valL_append]
  have hl : ((bs.drop (8 * (k / 8))).take (k % 8)).length = k % 8 := by simp; omega
  rw [hl]
  simp only [valL, List.getElem?_drop]
  rw [show 8 * (k / 8) + k % 8 = k by omega]
  simp [Nat.mul_comm]

theorem wordAt_small (bs : List Nat) (k : Nat) (h : ∀ x ∈ bs, x < 256) : wordAt (bs.take k) (k / 8) < 256 ^ (k % 8) := by
  rw [wordAt_take]
  refine Nat.lt_of_lt_of_le (valL_lt _ fun x hx => h x (List.mem_of_mem_drop (List.mem_of_mem_take hx))) (Nat.pow_le_pow_right (by decide) ?_)
  simp; omega

theorem layN_set (bs : List Nat) (k N : Nat) (h : k < bs.length) (hk : k / 8 < N) : (layN (bs.take k) N).set (k / 8) (wordAt (bs.take k) (k / 8) + bs[k]?.getD 0 * 256 ^ (k % 8)) = layN (bs.take (k + 1)) N := by
  apply List.ext_getElem
  · simp [layN_length]
  · intro j h1 h2
    simp only [List.getElem_set]
    by_cases e : k / 8 = j
    · subst e; simp [layN, ← wordAt_step bs k h]
    · simp [e, layN, wordAt_other bs k j (fun h => e h.symm)]

set_option maxHeartbeats 400000 in
theorem lay_any (v : Value) (bs : List Nat) (N : Nat) (w : World) (hv : Reads w v (ints .u8 bs)) (hb : ∀ x ∈ bs, x < 256) (hlen : bs.length ≤ 1048576) (hN : (bs.length + 7) / 8 = N) :
    Calls Try.prog 20 #[v] w fun e w' => ∃ g, e = .returned (.slice (some ⟨g, 0, none⟩) N N) ∧ w.heap.size ≤ g ∧ RowL w' g 38 (ints .u64 (layL bs)) ∧ Below w.heap.size w w' := by
  obtain ⟨a, cap, rfl, hcap, hcells⟩ := hv.ints
  have hN1 : 8 * N < bs.length + 8 := by omega
  have hN2 : bs.length ≤ 8 * N := by omega
  have hmk := run_mk El64 N N (by omega) (by omega) (by omega) (N : Int) (N : Int) rfl rfl
  unfold layL
  have HN := Lib.hid hN
  rw [hN]
  clear hN
  go_enter Try.func20, Try.ntmps20
  go_wp2_with (first | (go_at_call 28; refine (wordsFor_any _ N (by omega) HN _).mono ?_; rintro e w1 ⟨rfl, rfl⟩))
  go_loopw [13] (fun i wr => ∃ k : Nat, k ≤ bs.length ∧ i = .int .i64 k ∧ Boxed wr w.heap.size 57 (.slice a bs.length cap) ∧ Boxed wr (w.heap.size + 1 + 1) 25 (.slice (some ⟨w.heap.size + 1, 0, none⟩) N N) ∧ RowL wr (w.heap.size + 1) 38 (ints .u64 (layN (bs.take k) N)) ∧ Below w.heap.size w wr) (fun i _ => bs.length - (intOf i).toNat)
  case atStart =>
    refine ⟨0, by omega, rfl, ((Boxed.new w _ _).alloc _).alloc _, ?_, ?_, (((Below.refl _ w).alloc (Nat.le_refl _) _).alloc (by simp) _).alloc (by simp; omega) _⟩
    · have h := Boxed.new ((w.alloc (.cells #[.slice a bs.length cap] 57)).alloc (.cells (madeCells #[.int .u64 0] N) 38)) 25 (.slice (some ⟨w.heap.size + 1, 0, none⟩) N N)
      simpa using h
    · have h := (RowL.made (w.alloc (.cells #[.slice a bs.length cap] 57)) 38 (.int .u64 0) N).alloc (.cells #[.slice (some ⟨w.heap.size + 1, 0, none⟩) N N] 25)
      have e : ints .u64 (layN (bs.take 0) N) = List.replicate N (.int .u64 0) := by
        apply List.ext_getElem
        · simp [layN_length]
        · intro j h1 h2; simp [layN, wordAt, valL]
      rw [e]
      simpa using h
  case round =>
    obtain ⟨k, hk, rfl, hbb, hbo, hrow, hbl⟩ := hrel
    by_cases hlt : k < bs.length
    · obtain ⟨b, off, rfl, hbs, hc⟩ := hcells (by omega)
      have hck : wr.cell? ⟨b, off + k, none⟩ = some (.int .u8 ((bs[k]?.getD 0 : Nat) : Int)) := (hbl.cell (p := ⟨b, off + k, none⟩) hbs).trans (hc k hlt)
      have hb8 : bs[k]?.getD 0 < 256 := by simp [hlt]; exact hb _ (List.getElem_mem hlt)
      have hk8 : k / 8 < N := by omega
      have hgk : wr.cell? ⟨w.heap.size + 1, k / 8, none⟩ = some (.int .u64 ((wordAt (bs.take k) (k / 8) : Nat) : Int)) := hrow.cell (by simp [layN, hk8])
      have hgf := hrow.frozen (k / 8)
      have hq := wordAt_small bs k hb
      have hst0 := layN_set bs k N hlt hk8
      obtain ⟨c, hce⟩ : ∃ c, bs[k]?.getD 0 = c := ⟨_, rfl⟩
      obtain ⟨q, hqe⟩ : ∃ q, wordAt (bs.take k) (k / 8) = q := ⟨_, rfl⟩
      rw [hce] at hck hb8 hst0
      rw [hqe] at hgk hq hst0
      have hst := Lib.hid hst0
      clear hst0 hce hqe
      have hl1 := Lib.hid (lay1_any k N (w.heap.size + 1 + 1) w.heap.size (w.heap.size + 1) b off bs.length cap _ _ wr (by omega) hbo hbb hlt hk8 hck hgk hgf hq hb8)
      clear hc hcells hck hgk hgf hq hb8 hb hv
      go_wp2_with (first | (go_at_call 29; refine hl1.out.mono ?_; rintro e w1 ⟨rfl, rfl⟩))
      go_roundw
      case rel =>
        refine ⟨k + 1, by omega, by go_num, box_other hbb (by simp) _, box_other hbo (by simp) _, ?_, (hbl.setCell (p := ⟨w.heap.size + 1, k / 8, none⟩) (by simp) _).drew⟩
        rw [← hst.out]
        have h := (hrow.set (k / 8) (.int .u64 (q + c * 256 ^ (k % 8) : Nat))).drew
        have e : ints .u64 ((layN (bs.take k) N).set (k / 8) (q + c * 256 ^ (k % 8))) = (ints .u64 (layN (bs.take k) N)).set (k / 8) (.int .u64 (q + c * 256 ^ (k % 8) : Nat)) := by simp [List.map_set]
        rw [e]
        first | exact h | (simp at h ⊢; exact h)
      case measure => simp [intOf]; omega
    · obtain rfl : k = bs.length := by omega
      have hbo' := hbo.cell
      go_wp2
      go_ret
      exact ⟨_, rfl, by omega, by simpa using hrow, hbl⟩

/-- What Take tells of words: the n bytes, or that there are none. -/
def takeOk (ws : List Nat) (n : Int) : Bool := decide (0 ≤ n) && decide ((n.toNat + 7) / 8 = ws.length) && ((bytesL ws).drop n.toNat).all (· == 0)

set_option maxHeartbeats 400000 in
theorem take_wrong (v : Value) (ws : List Nat) (n : Int) (w : World) (hv : Reads w v (ints .u64 ws)) (hlen : ws.length ≤ 1048576) (hn : ¬ (0 ≤ n ∧ (n.toNat + 7) / 8 = ws.length)) (hw1 : -9223372036854775808 ≤ n) (hw2 : n ≤ 9223372036854775807) :
    Calls Try.prog 38 #[v, .int .i64 n] w fun e w' => e = .returned (.tuple #[.slice none 0 0, .int .i64 2]) ∧ w = w' := by
  obtain ⟨a, cap, rfl, hcap, hcells⟩ := hv.ints
  clear hcells hv
  by_cases h0 : n < 0
  · go_enter Try.func38, Try.ntmps38
    go_wp2
    go_ret2
    exact ⟨rfl, rfl⟩
  · obtain ⟨m, rfl⟩ : ∃ m : Nat, n = (m : Int) := ⟨n.toNat, by omega⟩
    obtain ⟨N, hN⟩ : ∃ N, (m + 7) / 8 = N := ⟨_, rfl⟩
    have hne : (((ws.length : Nat) : Int) != (N : Int)) = true := by simp at hn ⊢; omega
    have HN := Lib.hid hN
    have hm : m ≤ 9223372036854775807 := by omega
    clear hN hn
    go_enter Try.func38, Try.ntmps38
    go_wp2_with (first | (go_at_call 28; refine (wordsFor_any m N hm HN _).mono ?_; rintro e w1 ⟨rfl, rfl⟩))
    go_ret2
    exact ⟨rfl, rfl⟩

/-- Are all of these 0? -/
def zerosB (l : List Nat) : Bool := l.all (· == 0)

theorem all_snoc (l : List Nat) (k : Nat) (h : k < l.length) : zerosB (l.take (k + 1)) = (zerosB (l.take k) && (l[k]?.getD 0 == 0)) := by
  rw [take_snoc l 0 k h]; simp [zerosB]

theorem zerosB_take {l : List Nat} {k : Nat} (h : zerosB (l.take k) = false) : zerosB l = false := by
  unfold zerosB at *
  rw [List.all_eq_false] at h ⊢
  obtain ⟨x, hx, hx0⟩ := h
  exact ⟨x, List.mem_of_mem_take hx, hx0⟩

set_option maxHeartbeats 800000 in
theorem take_any (v : Value) (ws : List Nat) (m : Nat) (w : World) (hv : Reads w v (ints .u64 ws)) (hlen : ws.length ≤ 1048576) (hm : (m + 7) / 8 = ws.length) :
    Calls Try.prog 38 #[v, .int .i64 m] w fun e w' => ∃ v' no, e = .returned (.tuple #[v', .int .i64 no]) ∧ Below w.heap.size w w' ∧
      ((zerosB ((bytesL ws).drop m) = true ∧ no = 0 ∧ Reads w' v' (ints .u8 ((bytesL ws).take m))) ∨ (zerosB ((bytesL ws).drop m) = false ∧ no = 2 ∧ v' = .slice none 0 0)) := by
  have hby := Lib.hid (bytes_any v ws w hv hlen)
  obtain ⟨a, cap, rfl, hcap, hcells⟩ := hv.ints
  have hbe : (((ws.length : Nat) : Int) != ((ws.length : Nat) : Int)) = false := by simp
  have HN := Lib.hid hm
  obtain ⟨L, hL⟩ : ∃ L, 8 * ws.length = L := ⟨_, rfl⟩
  have hm1 : m ≤ L := by omega
  have hL2 : L ≤ 8388608 := by omega
  have HL := Lib.hid hL
  have hlb := bytesL_length ws
  rw [hL] at hlb
  clear hcells hv hm hL
  obtain ⟨bs, hbs⟩ : ∃ bs, bytesL ws = bs := ⟨_, rfl⟩
  rw [hbs] at hby hlb ⊢
  clear hbs
  go_enter Try.func38, Try.ntmps38
  go_wp2_with (first | (go_at_call 28; refine (wordsFor_any m _ (by omega) HN _).mono ?_; rintro e w1 ⟨rfl, rfl⟩) | (go_at_call 52; refine hby.out.mono ?_; rintro e w1 ⟨v', rfl, hown, hbl⟩; have hrd := reads_of_owns hown; obtain ⟨a', cap', rfl, hcap', _⟩ := hrd.intsN hlb; obtain ⟨A, hA1, hA2⟩ := run_from El8 a' L cap' m hm1 hcap'; have hA3 := Lib.hid (hA2 w1 _ hrd); have hU := run_upto3 El8 a' L cap' m (by omega); clear hA2 hown; have HRD := Lib.hid hrd; clear hrd))
  have hz : Reads w1 (.slice A (L - m) (cap' - m)) (ints .u8 (bs.drop m)) := by have h := hA3.out; rw [← List.map_drop] at h; exact h
  have hlz : (bs.drop m).length = L - m := by simp [hlb]
  obtain ⟨zs, hzs⟩ : ∃ zs, bs.drop m = zs := ⟨_, rfl⟩
  rw [hzs] at hz hlz
  have HZ := Lib.hid hzs
  obtain ⟨A2, c2, he, hc2, hcz⟩ := hz.intsN hlz
  simp only [Value.slice.injEq] at he
  obtain ⟨rfl, _, rfl⟩ := he
  clear hz hA3 hA1 hzs
  obtain ⟨D, hD⟩ : ∃ D, L - m = D := ⟨_, rfl⟩
  rw [hD] at hlz hcz ⊢
  have hD2 : D ≤ 8388608 := by omega
  clear hD hby
  go_loop [24] (fun i => ∃ k : Nat, k ≤ D ∧ i = .int .i64 k ∧ zerosB (zs.take k) = true) (fun i => D - (intOf i).toNat)
  case atStart => exact ⟨0, by omega, rfl, rfl⟩
  case round =>
    obtain ⟨k, hk, rfl, hall⟩ := hrel
    have HA := Lib.hid hall
    clear hall
    by_cases hlt : k < D
    · obtain ⟨b, off, rfl, hbs, hc⟩ := hcz (by omega)
      have hck := hc k hlt
      have hsn := Lib.hid (all_snoc zs k (by omega))
      have hkz := Lib.hid (show k < zs.length by omega)
      obtain ⟨c, hce⟩ : ∃ c, zs[k]?.getD 0 = c := ⟨_, rfl⟩
      rw [hce] at hck hsn
      clear hc hcz hce hlz
      by_cases h0 : c = 0
      · subst h0
        go_wp2
        go_round
        case rel => exact ⟨k + 1, by omega, by go_num, by rw [hsn.out, HA.out]; rfl⟩
        case measure => simp [intOf]; omega
      · have hne : ((c : Int) != 0) = true := by simp; exact h0
        go_wp2
        go_ret2
        refine ⟨_, _, rfl, hbl, .inr ⟨?_, rfl, rfl⟩⟩
        rw [HZ.out]
        have hs := hsn.out
        rw [HA.out] at hs
        exact zerosB_take (by rw [hs]; simp [h0])
    · obtain rfl : k = D := by omega
      clear hcz
      go_wp2
      go_ret2
      refine ⟨_, _, rfl, hbl, .inl ⟨?_, rfl, ?_⟩⟩
      · rw [HZ.out]
        have h := HA.out
        rw [List.take_of_length_le (by omega)] at h
        exact h
      · have h := HRD.out.take m hm1 m (Nat.le_refl _)
        first | exact h | (rw [← List.map_take] at h; exact h)

theorem within_int {n lo hi : Int} {w : World} (b : Bool) (h : (decide (lo ≤ n) && decide (n ≤ hi)) = b) : Calls Try.prog 60 #[.int .i64 n, .int .i64 lo, .int .i64 hi] w fun e w' => e = .returned (.bool b) ∧ w = w' := by
  subst h
  by_cases h1 : lo ≤ n
  · go_enter Try.func60, Try.ntmps60
    go_wp2
    go_ret
    exact ⟨by simp [h1], rfl⟩
  · go_enter Try.func60, Try.ntmps60
    go_wp2
    go_ret
    exact ⟨by simp; omega, rfl⟩

/-- A callee that leaves the world alone, in a region that draws its order. -/
theorem quiet_same {P : Program} {f : FuncId} {args : Array Value} {w : World} {n : Nat} {v : Value}
    (h : Calls P f args (w.drewN n) fun e w' => e = .returned v ∧ w.drewN n = w') : Calls P f args (w.drewN n) fun e w'' => e = .returned v ∧ ∃ m, w'' = w.drewN m :=
  h.mono fun _ _ ⟨he, hm⟩ => ⟨he, n, hm.symm⟩

theorem mask_int (a k : Nat) (h1 : 1 ≤ k) (h2 : k + a ≤ 64) : IntKind.u64.wrap (18446744073709551615 / 2 ^ (64 - (k : Int)).toNat * 2 ^ (a : Int).toNat) = (((2 ^ k - 1) * 2 ^ a : Nat) : Int) := by
  have e := mask_val a k h2
  rw [show (64 - (k : Int)).toNat = 64 - k by omega, Int.toNat_natCast, IntKind.wrap_u64, ← e]
  simp

theorem fieldMask_ok (a k : Nat) (h1 : 1 ≤ k) (h2 : k + a ≤ 64) (w : World) : Calls Try.prog 55 #[.int .i64 a, .int .i64 k] w fun e w' => e = .returned (.tuple #[.int .u64 ((2 ^ k - 1) * 2 ^ a : Nat), .bool true]) ∧ w = w' := by
  have m := mask_int a k h1 h2
  rw [show (64 - (k : Int)).toNat = 64 - k by omega, Int.toNat_natCast] at m
  have M := Lib.hid m
  clear m
  go_enter Try.func55, Try.ntmps55
  go_wp2_with (first | (go_at_call 60; refine (within_int true (by simp; omega)).mono ?_; rintro e w' ⟨rfl, rfl⟩))
  go_ret2
  exact ⟨by simp only [← M.out]; rfl, rfl⟩

theorem fieldMask_bad (a k : Int) (h : ¬ (0 ≤ a ∧ a ≤ 63 ∧ 1 ≤ k ∧ k ≤ 64 - a)) (w : World) : Calls Try.prog 55 #[.int .i64 a, .int .i64 k] w fun e w' => e = .returned (.tuple #[.int .u64 0, .bool false]) ∧ w = w' := by
  by_cases h0 : 0 ≤ a ∧ a ≤ 63
  · obtain ⟨h0, h0'⟩ := h0
    go_enter Try.func55, Try.ntmps55
    go_wp2_with (first | (go_at_call 60; first | (refine (within_int true (by simp; omega)).mono ?_; rintro e w' ⟨rfl, rfl⟩) | (refine (within_int false (by simp; omega)).mono ?_; rintro e w' ⟨rfl, rfl⟩)))
    all_goals (go_ret2; exact ⟨rfl, rfl⟩)
  · go_enter Try.func55, Try.ntmps55
    go_wp2_with (first | (go_at_call 60; refine (within_int false (by simp; omega)).mono ?_; rintro e w' ⟨rfl, rfl⟩))
    all_goals (go_ret2; exact ⟨rfl, rfl⟩)

theorem of_any (x m : Nat) (hx : x < 18446744073709551616) (hm : m < 18446744073709551616) (w : World) : Calls Try.prog 56 #[.int .u64 m, .int .u64 x] w fun e w' => e = .returned (.int .u64 (x &&& m : Nat)) ∧ w = w' := by
  have e := Lib.hid (u64_and_nat x m hx hm)
  go_enter Try.func56, Try.ntmps56
  go_wp2
  go_ret
  exact ⟨ret1 (int_eq e.out), rfl⟩

theorem field_ok (x a k : Nat) (hx : x < 18446744073709551616) (h1 : 1 ≤ k) (h2 : k + a ≤ 64) (w : World) : Calls Try.prog 51 #[.int .u64 x, .int .i64 a, .int .i64 k] w fun e w' => e = .returned (.tuple #[.int .u64 (x / 2 ^ a % 2 ^ k : Nat), .int .i64 0]) ∧ w = w' := by
  have e := Lib.hid (and_mask_div x a k)
  have hm := mask_lt a k h2
  obtain ⟨M, hM⟩ : ∃ M, (2 ^ k - 1) * 2 ^ a = M := ⟨_, rfl⟩
  have f := fieldMask_ok a k h1 h2 w
  rw [hM] at f e hm
  clear hM
  have F := Lib.hid f
  clear f
  go_enter Try.func51, Try.ntmps51
  go_wp2_with (first | (go_at_call 55; refine F.out.mono ?_; rintro e w' ⟨rfl, rfl⟩) | (go_at_call 56; refine (of_any x M hx hm _).mono ?_; rintro e w' ⟨rfl, rfl⟩))
  go_ret2
  exact ⟨by simp [← e.out], rfl⟩

theorem field_bad (x a k : Int) (h : ¬ (0 ≤ a ∧ a ≤ 63 ∧ 1 ≤ k ∧ k ≤ 64 - a)) (w : World) : Calls Try.prog 51 #[.int .u64 x, .int .i64 a, .int .i64 k] w fun e w' => e = .returned (.tuple #[.int .u64 0, .int .i64 2]) ∧ w = w' := by
  go_enter Try.func51, Try.ntmps51
  go_wp2_with (first | (go_at_call 55; refine (fieldMask_bad a k h _).mono ?_; rintro e w' ⟨rfl, rfl⟩))
  go_ret2
  exact ⟨rfl, rfl⟩

theorem byteL_get (x n i : Nat) (h : i < n) : (byteL x n)[i]? = some (x / 256 ^ i % 256) := by simp [byteL, h]

theorem bytesL_get (ws : List Nat) : ∀ i, i < 8 * ws.length → (bytesL ws)[i]? = some (ws[i / 8]?.getD 0 / 256 ^ (i % 8) % 256) := by
  induction ws with
  | nil => intro i h; simp at h
  | cons x l ih =>
    intro i h
    have e : bytesL (x :: l) = byteL x 8 ++ bytesL l := by simp [bytesL]
    rw [e]
    by_cases h8 : i < 8
    · rw [List.getElem?_append_left (by rw [byteL_length]; exact h8), byteL_get x 8 i h8, show i / 8 = 0 by omega, show i % 8 = i by omega]
      rfl
    · rw [List.getElem?_append_right (by rw [byteL_length]; omega), byteL_length, ih (i - 8) (by simp at h; omega), show (i - 8) % 8 = i % 8 by omega, show i / 8 = (i - 8) / 8 + 1 by omega]
      simp

theorem valL_get (l : List Nat) (h : ∀ x ∈ l, x < 256) : ∀ k, valL l / 256 ^ k % 256 = l[k]?.getD 0 := by
  induction l with
  | nil => intro k; simp [valL]
  | cons b r ih =>
    intro k
    have hb := h b (by simp)
    have ih' := ih (fun x hx => h x (by simp [hx]))
    cases k with
    | zero => simp [valL]; omega
    | succ k =>
      have e : valL (b :: r) / 256 ^ (k + 1) = valL r / 256 ^ k := by
        rw [Nat.pow_succ, Nat.mul_comm, ← Nat.div_div_eq_div_mul]
        congr 1
        simp only [valL]
        omega
      rw [e, ih' k]
      simp

theorem bytes_lay (bs : List Nat) (h : ∀ x ∈ bs, x < 256) (n i : Nat) (hi : i < 8 * n) : (bytesL (layN bs n))[i]? = some (bs[i]?.getD 0) := by
  rw [bytesL_get _ i (by rw [layN_length]; exact hi)]
  congr 1
  have hj : i / 8 < n := by omega
  have e : (layN bs n)[i / 8]?.getD 0 = wordAt bs (i / 8) := by simp [layN, hj]
  rw [e]
  unfold wordAt
  rw [valL_get _ (fun x hx => h x (List.mem_of_mem_drop (List.mem_of_mem_take hx)))]
  rw [List.getElem?_take, if_pos (by omega), List.getElem?_drop, show 8 * (i / 8) + i % 8 = i by omega]

theorem layL_length (bs : List Nat) : (layL bs).length = (bs.length + 7) / 8 := layN_length _ _

theorem lay_take (bs : List Nat) (h : ∀ x ∈ bs, x < 256) : (bytesL (layL bs)).take bs.length = bs := by
  apply List.ext_getElem?
  intro i
  rw [List.getElem?_take]
  by_cases hi : i < bs.length
  · rw [if_pos hi]
    unfold layL
    rw [bytes_lay bs h _ i (by omega)]
    simp [hi]
  · rw [if_neg hi, List.getElem?_eq_none (by omega)]

theorem lay_drop (bs : List Nat) (h : ∀ x ∈ bs, x < 256) : zerosB ((bytesL (layL bs)).drop bs.length) = true := by
  unfold zerosB
  rw [List.all_eq_true]
  intro x hx
  obtain ⟨i, hi, rfl⟩ := List.mem_iff_getElem.1 hx
  simp only [List.length_drop, bytesL_length, layL_length] at hi
  have e := bytes_lay bs h ((bs.length + 7) / 8) (bs.length + i) (by omega)
  rw [List.getElem?_eq_none (l := bs) (by omega)] at e
  have e2 : ((bytesL (layL bs)).drop bs.length)[i]? = some 0 := by rw [List.getElem?_drop]; exact e
  rw [List.getElem?_eq_getElem (by simp [bytesL_length, layL_length]; omega)] at e2
  simpa using e2

theorem lay_small (bs : List Nat) (h : ∀ x ∈ bs, x < 256) : ∀ x ∈ layL bs, x < 18446744073709551616 := by
  intro x hx
  simp only [layL, layN, List.mem_map] at hx
  obtain ⟨j, _, rfl⟩ := hx
  unfold wordAt
  refine Nat.lt_of_lt_of_le (valL_lt _ fun x hx => h x (List.mem_of_mem_drop (List.mem_of_mem_take hx))) ?_
  have : ((bs.drop (8 * j)).take 8).length ≤ 8 := by simp; omega
  exact Nat.le_trans (Nat.pow_le_pow_right (by decide) this) (by decide)

theorem valL_byteL (x n : Nat) : valL (byteL x n) = x % 256 ^ n := by
  induction n with
  | zero => simp [byteL, valL, Nat.mod_one]
  | succ n ih =>
    rw [byteL_succ, valL_append, ih, byteL_length]
    simp only [valL, Nat.mul_zero, Nat.add_zero]
    rw [Nat.pow_succ, Nat.mod_mul]

/-- The words of the bytes of words. -/
theorem lay_bytes (ws : List Nat) (h : ∀ x ∈ ws, x < 18446744073709551616) : layL (bytesL ws) = ws := by
  apply List.ext_getElem
  · rw [layL_length, bytesL_length]; omega
  · intro j h1 h2
    simp only [layL, layN, List.getElem_map, List.getElem_range]
    have e : ((bytesL ws).drop (8 * j)).take 8 = byteL ws[j] 8 := by
      apply List.ext_getElem?
      intro i
      rw [List.getElem?_take]
      by_cases hi : i < 8
      · rw [if_pos hi, List.getElem?_drop, bytesL_get ws _ (by omega), byteL_get _ _ _ hi, show (8 * j + i) / 8 = j by omega, show (8 * j + i) % 8 = i by omega]
        simp [h2]
      · rw [if_neg hi, List.getElem?_eq_none (by rw [byteL_length]; omega)]
    unfold wordAt
    rw [e, valL_byteL]
    exact Nat.mod_eq_of_lt (Nat.lt_of_lt_of_le (h _ (List.getElem_mem h2)) (by decide))

theorem bytesL_small (ws : List Nat) : ∀ x ∈ bytesL ws, x < 256 := by
  intro x hx
  simp only [bytesL, List.mem_flatMap, byteL, List.mem_map] at hx
  obtain ⟨w, _, i, _, rfl⟩ := hx
  exact Nat.mod_lt _ (by decide)

/-- The bytes of the words of bytes that are a multiple of eight. -/
theorem bytes_of_lay (bs : List Nat) (h : ∀ x ∈ bs, x < 256) (h8 : bs.length % 8 = 0) : bytesL (layL bs) = bs := by
  have e := lay_take bs h
  rw [List.take_of_length_le (by rw [bytesL_length, layL_length]; omega)] at e
  exact e

end Go.Proofs.Ytefepklacchghaa
