/- Contracts of layer 1: the bytes of words. -/
import Derived.Test.YtefepklacchghaaProg
import Derived.Test.YtefepklacchghaaMath
import Derived.Test.YtefepklacchghaaKit
import Derived.WalkKit
import Derived.IntWalk
import Derived.Lib.Hide
import Derived.Deep.QuietTactic
import Derived.BigQuiet
import Derived.StillTailTactics
import Derived.Deep.RegionLaw
import Derived.Deep.AppendLies
import Derived.OneCell
namespace Go.Proofs.Ytefepklacchghaa
set_option linter.unusedVariables false
set_option linter.unusedSimpArgs false
open Go.RowKit

/-- The first k bytes of a word, the lowest first. -/
def byteL (x k : Nat) : List Nat := (List.range k).map fun i => x / 256 ^ i % 256
theorem byteL_succ (x k : Nat) : byteL x (k + 1) = byteL x k ++ [x / 256 ^ k % 256] := by simp [byteL, List.range_succ]
theorem byteL_length (x k : Nat) : (byteL x k).length = k := by simp [byteL]
def bytesL (ws : List Nat) : List Nat := ws.flatMap fun x => byteL x 8

theorem Try.info5 : (Try.prog.info? 5).map (fun i => (i.zero, i.size, i.bytes)) = some (some (.int .u8 0), 1, 1) := by kernel_rfl

theorem El8 : El Try.prog 57 5 (Value.int .u8 0) 1 := ⟨Try.underlying57, info_parts Try.info5, rfl⟩

theorem Try.infou64 : (Try.prog.info? 38).map (fun i => (i.zero, i.size, i.bytes)) = some (some (.int .u64 0), 1, 8) := by kernel_rfl
theorem El64 : El Try.prog 25 38 (Value.int .u64 0) 8 := ⟨Try.underlying25, info_parts Try.infou64, rfl⟩

theorem byte_move (x i : Nat) : IntKind.u8.wrap ((x : Int) / 2 ^ (8 * i)) = ((x / 256 ^ i % 256 : Nat) : Int) := by
  rw [IntKind.wrap_u8', show (256 : Nat) = 2 ^ 8 by rfl, ← Nat.pow_mul]
  simp

theorem bytes1_step {w : World} {n0 e : Nat} {v : Value} {n : Nat} {xs : List Nat} {x k : Nat} (h : w.ownsRow n0 e 1 v (n + 1) (ints .u8 (xs ++ byteL x k) ++ [.int .u8 (IntKind.u8.wrap ((x : Int) / 2 ^ (8 * k)))])) :
    w.ownsRow n0 e 1 v (n + 1) (ints .u8 (xs ++ byteL x (k + 1))) := by
  rw [byte_move] at h
  rw [byteL_succ]
  simpa using h

set_option maxHeartbeats 400000 in
theorem bytes1_any (x B n0 : Nat) (v : Value) (n : Nat) (xs : List Nat) (w : World) (hbox : Boxed w B 57 v) (hrow : w.ownsRow n0 5 1 v n (ints .u8 xs)) (hn : n0 ≤ w.heap.size) (hB : n0 ≤ B) (hlen : n + 8 ≤ 140737488355328) :
    Calls Try.prog 57 #[.int .u64 x, .pointer (some ⟨B, 0, none⟩)] w fun e w' => e = .returned (.tuple #[]) ∧ ∃ v', Boxed w' B 57 v' ∧ w'.ownsRow n0 5 1 v' (n + 8) (ints .u8 (xs ++ byteL x 8)) ∧ Below n0 w w' := by
  go_enter Try.func57, Try.ntmps57
  go_wp2
  go_loopw [4] (fun i wr => ∃ k : Nat, k ≤ 8 ∧ i = .int .i64 k ∧ ∃ v m, m = n + k ∧ Boxed wr B 57 v ∧ wr.ownsRow n0 5 1 v m (ints .u8 (xs ++ byteL x k)) ∧ Below n0 w wr) (fun i _ => 8 - (intOf i).toNat)
  case atStart => exact ⟨0, by omega, rfl, v, n, rfl, hbox, by simpa [byteL] using hrow, Below.refl _ _⟩
  case round =>
    obtain ⟨k, hk, rfl, v, m, hm, hb, hr, hbel⟩ := hrel
    by_cases hlt : k < 8
    · have hc := hb.cell
      have hca : ∀ o, (wr.alloc o).cell? ⟨B, 0, none⟩ = some v := fun o => (hb.alloc o).cell
      have hmb : m + 1 ≤ 140737488355328 := by omega
      have HM := Lib.hid hm
      clear hm
      have hwr : IntKind.i64.wrap (8 * (k : Int)) = 8 * (k : Int) := IntWalk.i64_in _ (by omega)
      have hw0 : (0 : Int) ≤ 8 * (k : Int) := by omega
      have hw1 : (8 * (k : Int)).toNat = 8 * k := by omega
      go_wp2
      go_region_law (refine step_app El8 rfl rfl (by simp [Act.eval]) (by simp [Act.eval]; exact ⟨rfl, rfl⟩) (hr.alloc _) (by first | exact cell_new _ _ _ | exact cell_new_d _ _ _) rfl (by simp; omega) (by simp [maxLen]; omega) (by simp; have := hbel.size; omega) ?_; intro g cap w1 hown hgrow _ _; obtain ⟨c1, f1, H⟩ := box_app hb (by decide) hr (by have := hbel.size; omega) hB hown (grown_undrew hgrow); clear hown hgrow)
      all_goals go_wp2
      all_goals (obtain ⟨g1, g2, g3⟩ := H.out; clear H)
      all_goals go_roundw
      all_goals first
        | (simp [intOf]; omega)
        | exact ⟨k + 1, by omega, by go_num, _, m + 1, by have := HM.out; omega, g1, bytes1_step g2, hbel.trans g3⟩
    · obtain rfl : k = 8 := by omega
      go_wp2
      go_end0
      subst hm
      exact ⟨rfl, v, hb, hr, hbel⟩
theorem bytesL_snoc (l : List Nat) (x : Nat) : bytesL (l ++ [x]) = bytesL l ++ byteL x 8 := by simp [bytesL]
theorem bytesL_length (l : List Nat) : (bytesL l).length = 8 * l.length := by
  induction l with
  | nil => rfl
  | cons x l ih => simp only [bytesL, List.flatMap_cons, List.length_append, byteL_length, List.length_cons] at *; omega

set_option maxHeartbeats 400000 in
theorem bytes_any (v : Value) (ws : List Nat) (w : World) (hv : Reads w v (ints .u64 ws)) (hlen : ws.length ≤ 1048576) :
    Calls Try.prog 52 #[v] w fun e w' => ∃ v', e = .returned v' ∧ w'.ownsRow w.heap.size 5 1 v' (8 * ws.length) (ints .u8 (bytesL ws)) ∧ Below w.heap.size w w' := by
  obtain ⟨a, cap, rfl, hcap, hcells⟩ := hv.ints
  have hmk := run_mk El8 0 (8 * ws.length) (by omega) (by omega) (by omega)
  have hwr : IntKind.i64.wrap ((ws.length : Int) * 8) = 8 * (ws.length : Int) := by rw [IntWalk.i64_in _ (by omega)]; omega
  have hm2 : ∀ w, (Instr.makeSlice 57 (.int .i64 0) (.int .i64 (8 * (ws.length : Int)))).run Try.prog w = _ := fun w => hmk 0 (8 * (ws.length : Int)) rfl (by omega) w
  have hown := owns_made (e := 5) (z := .int .u8 0) w 0 (8 * ws.length) w.heap.size (by omega) (by simp [maxLen]; omega) (Nat.le_refl _)
  have hbel := (Below.refl w.heap.size w).alloc (Nat.le_refl _) (.cells (madeCells #[.int .u8 0] (8 * ws.length)) 5)
  clear hmk
  go_enter Try.func52, Try.ntmps52
  go_wp2
  go_loopw [14] (fun i wr => ∃ k : Nat, k ≤ ws.length ∧ i = .int .i64 k ∧ ∃ v, Boxed wr (w.heap.size + 1) 57 v ∧ wr.ownsRow w.heap.size 5 1 v (8 * k) (ints .u8 (bytesL (ws.take k))) ∧ Below w.heap.size w wr) (fun i _ => ws.length - (intOf i).toNat)
  case atStart =>
    refine ⟨0, by omega, rfl, _, by have := Boxed.new (w.alloc (.cells (madeCells #[.int .u8 0] (8 * ws.length)) 5)) 57 (.slice (some ⟨w.heap.size, 0, none⟩) 0 (8 * ws.length)); simpa using this, hown.alloc _, hbel.alloc (by simp) _⟩
  case round =>
    obtain ⟨k, hk, rfl, v, hb, hr, hbl⟩ := hrel
    by_cases hlt : k < ws.length
    · obtain ⟨b, off, rfl, hbs, hc⟩ := hcells (by omega)
      have hck : wr.cell? ⟨b, off + k, none⟩ = some (.int .u64 ((ws[k]?.getD 0 : Nat) : Int)) := (hbl.cell (p := ⟨b, off + k, none⟩) hbs).trans (hc k hlt)
      have hsz := hbl.size
      clear hc hcells
      have hts := Lib.hid (take_snoc ws 0 k hlt)
      go_wp2_with (first | (go_at_call 57; refine (bytes1_any _ _ w.heap.size v (8 * k) _ _ hb hr (by omega) (by omega) (by omega)).mono ?_; rintro e w1 ⟨rfl, v', g1, g2, g3⟩))
      go_roundw
      case rel => exact ⟨k + 1, by omega, by go_num, v', g1, by rw [hts.out, bytesL_snoc, show ws[k]?.getD 0 = ws[k] by simp [hlt]]; exact g2, hbl.trans g3⟩
      case measure => simp [intOf]; omega
    · obtain rfl : k = ws.length := by omega
      have hc := hb.cell
      go_wp2
      go_ret
      exact ⟨v, rfl, by simpa using hr, hbl⟩
end Go.Proofs.Ytefepklacchghaa
